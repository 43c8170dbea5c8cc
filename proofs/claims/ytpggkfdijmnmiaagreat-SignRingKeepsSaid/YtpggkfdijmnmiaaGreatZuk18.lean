/- What sign's Verify answers of the bytes of two numbers. Condition: a point of the curve that is not far out; the numbers are from 1 to N - 1. The chain that nonces are drawn from. Condition: what turns it has at most 2^40 bytes. The chain of a private key and a sum, and the nonces that it makes. No condition. What sign's numbers answers: a signature's numbers by a nonce. Condition: all are below N -/
import Derived.Test.YtpggkfdijmnmiaaGreatZuk17
import Derived.Laws.Concat
import Derived.Test.YtpggkfdijmnmiaaGreatZuk10
import Derived.RangeFuncNested
import Derived.RangeFuncBound
import Derived.RangeFuncCalls
import Derived.RangeFuncLeaves
import Derived.RangeFuncFrom
import Derived.Shelf.Abstract
import Derived.Shelf.RegionOpen
import Derived.OwnWalkIn
import Derived.TacticsInMore
import Derived.LoopNIn
import Derived.LoopIn
import Derived.Sort.CutIn
import Derived.Test.YtpggkfdijmnmiaaGreatZuk02
set_option linter.unusedVariables false
set_option linter.unusedSimpArgs false
set_option maxRecDepth 100000
namespace Go.Proofs.YtpggkfdijmnmiaaGreat
open Go.RowKit Go.Sort Limbs
theorem ba_ext {l m : List UInt8} {a b : Nat} (h : (l.drop a).take (b - a) = m) (hb : b ≤ l.length) : (⟨l.toArray⟩ : ByteArray).extract a b = ⟨m.toArray⟩ := by
  apply ByteArray.ext
  rw [ByteArray.data_extract]
  apply Array.ext'
  rw [← h]
  simp [Array.toList_extract, List.extract]
def sgB (r t : Nat) : List UInt8 := nb r ++ nb t
theorem sgB_len (r t : Nat) : (sgB r t).length = 64 := by rw [sgB, List.length_append, nb_length, nb_length]
theorem sgB_1 (r t : Nat) : (⟨(sgB r t).toArray⟩ : ByteArray).extract 0 32 = ⟨(nb r).toArray⟩ := ba_ext (by rw [sgB]; exact List.take_left' (nb_length r)) (by rw [sgB_len]; decide)
theorem sgB_2 (r t : Nat) : (⟨(sgB r t).toArray⟩ : ByteArray).extract 32 64 = ⟨(nb t).toArray⟩ := ba_ext (by
  rw [sgB, List.drop_left' (nb_length r)]
  exact List.take_of_length_le (by rw [nb_length]; decide)) (by rw [sgB_len]; decide)
set_option maxHeartbeats 16000000 in
theorem verify_sig (q : Po) (hq : q.on = true) (okq : q.ok) (hqi : q.i = false) (s : List UInt8) (hs : s.length ≤ 140737488351232) (r t : Nat) (hr0 : 0 < r) (hr : r < mN) (ht0 : 0 < t) (ht : t < mN) (w : World) : Calls Tryz.prog 16 #[q.v, .string ⟨s.toArray⟩, .string ⟨(sgB r t).toArray⟩] w fun z w' => z = .returned (.bool (fitS q (bv (Hs.sumL s) % mN) r t)) ∧ Below w.heap.size w w' := by
  have hW := mN_W
  have hn1 := number_yes (nb r) (nb_length r) (by rw [nb_val (by omega)]; exact hr)
  have hn2 := number_yes (nb t) (nb_length t) (by rw [nb_val (by omega)]; exact ht)
  rw [nb_val (show r < W256 by omega), decide_eq_true ⟨hr0, hr⟩] at hn1
  rw [nb_val (show t < W256 by omega), decide_eq_true ⟨ht0, ht⟩] at hn2
  have HN1 := Lib.hid hn1
  have HN2 := Lib.hid hn2
  have HS := Lib.hid (sumOf_any s hs)
  have HO := Lib.hid (onP hq okq)
  have HF := Lib.hid (fits_any q hq okq (bv (Hs.sumL s) % mN) r t (Nat.mod_lt _ mN_pos) hr ht0 ht)
  have HE1 := Lib.hid (sgB_1 r t)
  have HE2 := Lib.hid (sgB_2 r t)
  have hz : (⟨(sgB r t).toArray⟩ : ByteArray).size = 64 := by
    show (sgB r t).toArray.size = 64
    rw [List.size_toArray, sgB_len]
  clear hn1 hn2 hs hr0 hr ht0 ht hW hq okq
  generalize fitS q (bv (Hs.sumL s) % mN) r t = res at *
  generalize bv (Hs.sumL s) % mN = e at *
  generalize (⟨(sgB r t).toArray⟩ : ByteArray) = SB at *
  generalize (⟨(nb r).toArray⟩ : ByteArray) = RB at *
  generalize (⟨(nb t).toArray⟩ : ByteArray) = TB at *
  generalize (⟨s.toArray⟩ : ByteArray) = sb at *
  obtain ⟨x, y, i⟩ := q
  simp only [] at hqi
  subst hqi
  unfold Po.v pn at HO HF ⊢
  simp only [nv, num] at HN1 HN2 HS HF ⊢
  go_enter Tryz.func16, Tryz.ntmps16
  go_wp2_with fail
  rw [HE1.out]
  refine (keep w.heap.size w (HN1.out _) (by go_grown) (Nat.le_refl _)).mono ?_
  rintro z w1 ⟨rfl, hb1, hk⟩
  have KQ : Bk 26 w1 w.heap.size (cs9 x y false) := Bk.below (Bk.new rfl) hk
  clear hk
  go_wp2_with fail
  rw [HE2.out]
  have KQ2 : Bk 26 (w1.alloc (.cells #[.int .u64 (lb r 0 : Nat), .int .u64 (lb r 1 : Nat), .int .u64 (lb r 2 : Nat), .int .u64 (lb r 3 : Nat)] 24)) w.heap.size (cs9 x y false) := Bk.alloc KQ
  have KR : Bk 24 (w1.alloc (.cells #[.int .u64 (lb r 0 : Nat), .int .u64 (lb r 1 : Nat), .int .u64 (lb r 2 : Nat), .int .u64 (lb r 3 : Nat)] 24)) w1.heap.size (cs4 r) := Bk.new rfl
  have hb2 : Below w.heap.size w (w1.alloc (.cells #[.int .u64 (lb r 0 : Nat), .int .u64 (lb r 1 : Nat), .int .u64 (lb r 2 : Nat), .int .u64 (lb r 3 : Nat)] 24)) := hb1.alloc hb1.size _
  clear KQ hb1
  generalize w1.alloc (.cells #[.int .u64 (lb r 0 : Nat), .int .u64 (lb r 1 : Nat), .int .u64 (lb r 2 : Nat), .int .u64 (lb r 3 : Nat)] 24) = W at KQ2 KR hb2 ⊢
  generalize w1.heap.size = gr at KR ⊢
  refine (keep w.heap.size w (HN2.out _) hb2 (Nat.le_refl _)).mono ?_
  rintro z w2 ⟨rfl, hb3, hk⟩
  have KQ3 := KQ2.below hk
  have KR3 := KR.below hk
  have hsz := hb3.size
  clear hk KQ2 KR hb2
  go_upto_region 5 with fail
  have HQ : Hid (Bk 26 (w2.alloc (.cells #[.int .u64 (lb t 0 : Nat), .int .u64 (lb t 1 : Nat), .int .u64 (lb t 2 : Nat), .int .u64 (lb t 3 : Nat)] 24)) w.heap.size (cs9 x y false)) := Lib.hid (Bk.alloc KQ3)
  have HR : Hid (Bk 24 (w2.alloc (.cells #[.int .u64 (lb t 0 : Nat), .int .u64 (lb t 1 : Nat), .int .u64 (lb t 2 : Nat), .int .u64 (lb t 3 : Nat)] 24)) gr (cs4 r)) := Lib.hid (Bk.alloc KR3)
  have HT : Hid (Bk 24 (w2.alloc (.cells #[.int .u64 (lb t 0 : Nat), .int .u64 (lb t 1 : Nat), .int .u64 (lb t 2 : Nat), .int .u64 (lb t 3 : Nat)] 24)) w2.heap.size (cs4 t)) := Lib.hid (Bk.new rfl)
  have HB : Hid (Below w.heap.size w (w2.alloc (.cells #[.int .u64 (lb t 0 : Nat), .int .u64 (lb t 1 : Nat), .int .u64 (lb t 2 : Nat), .int .u64 (lb t 3 : Nat)] 24))) := Lib.hid (hb3.alloc hsz _)
  clear KQ3 KR3 hb3 hsz
  generalize w2.alloc (.cells #[.int .u64 (lb t 0 : Nat), .int .u64 (lb t 1 : Nat), .int .u64 (lb t 2 : Nat), .int .u64 (lb t 3 : Nat)] 24) = V at HQ HR HT HB ⊢
  generalize w2.heap.size = gt at HT ⊢
  obtain ⟨gq, hgq⟩ : ∃ g, g = w.heap.size := ⟨_, rfl⟩
  rw [← hgq] at HQ
  rw [show (Value.pointer (some ⟨w.heap.size, 0, none⟩)) = .pointer (some ⟨gq, 0, none⟩) by rw [hgq]]
  clear hgq
  obtain ⟨⟨c0, c1, c2, c3⟩, ⟨c4, c5, c6, c7⟩, c8⟩ := HQ.out.cells9
  go_wp2_with fail
  refine (keep w.heap.size w (HO.out _) HB.out (Nat.le_refl _)).mono ?_
  rintro z w3 ⟨rfl, hb, hk⟩
  have HQ3 := Lib.hid (HQ.out.below hk)
  have HR3 := Lib.hid (HR.out.below hk)
  have HT3 := Lib.hid (HT.out.below hk)
  have HB3 := Lib.hid hb
  clear hk hb HQ HR HT HB c0 c1 c2 c3 c4 c5 c6 c7 c8 HO HN1 HN2 HE1 HE2
  go_upto_region 7 with fail
  obtain ⟨⟨c0, c1, c2, c3⟩, ⟨c4, c5, c6, c7⟩, c8⟩ := HQ3.out.reg9
  obtain ⟨r0, r1, r2, r3⟩ := HR3.out.reg
  obtain ⟨t0, t1, t2, t3⟩ := HT3.out.reg
  clear HQ3 HR3 HT3
  refine wp_region_quiet_below mixed (by kernel_rfl) ?_
  repeat (first | go_big_quiet_step (first | exact qg HS.out | exact qg HF.out) | quiet_step (first | exact qg HS.out | exact qg HF.out))
  refine wpQuiet_nil ?_
  intro _ hw'
  obtain ⟨⟨dq, osq⟩, hw''⟩ := hw'
  subst hw''
  go_wp2_with fail
  go_returns
  exact ⟨rfl, HB3.out.trans ((below_regrown w3 dq osq).mono HB3.out.size)⟩
theorem Bk.regc {t : TypeId} {w : World} {g j : Nat} {cs : Array Value} {v : Value} (h : Bk t w g cs) (hv : cs[j]? = some v) : ∀ d os, (grow (redrawn w d) os).cell? ⟨g, j, none⟩ = some v := fun d os => ((h.regrown d os).cell j).trans hv
def Cn (w : World) (g : Nat) (k v : List UInt8) : Prop := Bk 175 w g #[.string ⟨k.toArray⟩, .string ⟨v.toArray⟩]
theorem Cn.below {w w' : World} {g : Nat} {k v : List UInt8} (h : Cn w g k v) (hb : Below w.heap.size w w') : Cn w' g k v := Bk.below h hb
set_option maxHeartbeats 16000000 in
theorem next_any (B g : Nat) (k v : List UInt8) (hk : k.length = 32) (hv : v.length = 32) (w : World) (h : Cn w g k v) (hB : B ≤ g) : Calls Tryz.prog 101 #[.pointer (some ⟨g, 0, none⟩)] w fun e w' => e = .returned (.string ⟨(Hs.macL k v).toArray⟩) ∧ Cn w' g k (Hs.macL k v) ∧ Below B w w' := by
  have HM := Lib.hid (fun w => Hs.Mac_any k v (by omega) (by omega) w)
  have HC := Lib.hid h
  have HBB := Lib.hid hB
  clear h hk hv hB
  generalize Hs.macL k v = m at *
  unfold Cn at HC ⊢
  generalize (⟨k.toArray⟩ : ByteArray) = kb at *
  generalize (⟨v.toArray⟩ : ByteArray) = vb at *
  generalize (⟨m.toArray⟩ : ByteArray) = mb at *
  go_enter Tryz.func101, Tryz.ntmps101
  go_upto_region 1 with fail
  have r0 := HC.out.regc (j := 0) rfl
  have r1 := HC.out.regc (j := 1) rfl
  refine wp_region_below_tail 12 mixed (by kernel_rfl) ?_
  simp only [List.take_succ_cons, List.take_zero, List.drop_succ_cons, List.drop_zero]
  repeat (first | go_big_quiet_step (exact qg HM.out) | quiet_step (exact qg HM.out))
  refine wpQuiet_nil ?_
  intro _ hw'
  obtain ⟨⟨dq, osq⟩, hw''⟩ := hw'
  subst hw''
  have HC2 := Lib.hid (HC.out.regrown dq osq)
  have HB2 := Lib.hid (below_regrown w dq osq)
  have hlt := HC.out.lt
  clear HC r0 r1
  generalize grow (redrawn w dq) osq = V at HC2 HB2 ⊢
  have c1 : V.cell? ⟨g, 1, none⟩ = some (.string vb) := HC2.out.cell 1
  have f1 := HC2.out.fro 1
  have c2 : (V.setCell ⟨g, 1, none⟩ (.string mb)).cell? ⟨g, 1, none⟩ = some (.string mb) := (Bk.same HC2.out).cell 1
  go_wp2_with fail
  go_returns
  refine ⟨rfl, Bk.same HC2.out, ?_⟩
  exact (HB2.out.mono (Nat.le_trans HBB.out (Nat.le_of_lt hlt))).setCell (p := ⟨g, 1, none⟩) HBB.out _
set_option maxHeartbeats 16000000 in
theorem turn_any (B g : Nat) (k v s : List UInt8) (hk : k.length = 32) (hv : v.length = 32) (hs : s.length ≤ 1099511627776) (w : World) (h : Cn w g k v) (hB : B ≤ g) : Calls Tryz.prog 102 #[.pointer (some ⟨g, 0, none⟩), .string ⟨s.toArray⟩] w fun e w' => e = .returned (.tuple #[]) ∧ Cn w' g (Hs.macL k (v ++ s)) (Hs.macL (Hs.macL k (v ++ s)) v) ∧ Below B w w' := by
  have HM := Lib.hid (fun w => Hs.Mac_any k (v ++ s) (by omega) (by rw [List.length_append]; omega) w)
  have hl := Hs.mac_length
  have HNX := Lib.hid (fun w h => next_any B g (Hs.macL k (v ++ s)) v (Hs.mac_length _ _) hv w h hB)
  have HC := Lib.hid h
  have HBB := Lib.hid hB
  have HA := Lib.hid (ByteArray.mk_append_mk v s)
  have hz1 : (⟨v.toArray⟩ : ByteArray).size ≤ 32 := by show v.toArray.size ≤ 32; rw [List.size_toArray]; omega
  have hz2 : (⟨s.toArray⟩ : ByteArray).size ≤ 1099511627776 := by show s.toArray.size ≤ _; rw [List.size_toArray]; exact hs
  clear h hk hv hB hs hl
  generalize Hs.macL (Hs.macL k (v ++ s)) v = m2 at *
  generalize Hs.macL k (v ++ s) = m at *
  unfold Cn at HC HNX ⊢
  generalize (⟨(v ++ s).toArray⟩ : ByteArray) = vs at *
  generalize (⟨k.toArray⟩ : ByteArray) = kb at *
  generalize (⟨v.toArray⟩ : ByteArray) = vb at *
  generalize (⟨m.toArray⟩ : ByteArray) = mb at *
  generalize (⟨m2.toArray⟩ : ByteArray) = mb2 at *
  generalize (⟨s.toArray⟩ : ByteArray) = sb at *
  have ha := HA.out
  go_enter Tryz.func102, Tryz.ntmps102
  go_upto_region 0 with fail
  have r0 := HC.out.regc (j := 0) rfl
  have r1 := HC.out.regc (j := 1) rfl
  refine wp_region_below_tail 14 mixed (by kernel_rfl) ?_
  simp only [List.take_succ_cons, List.take_zero, List.drop_succ_cons, List.drop_zero]
  repeat (first | go_big_quiet_step (exact qg HM.out) | quiet_step (exact qg HM.out))
  refine wpQuiet_nil ?_
  intro _ hw'
  obtain ⟨⟨dq, osq⟩, hw''⟩ := hw'
  subst hw''
  have HC2 := Lib.hid (HC.out.regrown dq osq)
  have HB2 := Lib.hid (below_regrown w dq osq)
  have hlt := HC.out.lt
  clear HC r0 r1
  generalize grow (redrawn w dq) osq = V at HC2 HB2 ⊢
  have c1 : V.cell? ⟨g, 0, none⟩ = some (.string kb) := HC2.out.cell 0
  have f1 := HC2.out.fro 0
  have HC3 : Hid (Bk 175 (V.setCell ⟨g, 0, none⟩ (.string mb)) g #[.string mb, .string vb]) := Lib.hid (Bk.same HC2.out)
  go_wp2_with fail
  refine (HNX.out _ HC3.out).mono ?_
  rintro e w2 ⟨rfl, hc, hb⟩
  go_wp2_with fail
  go_returns
  refine ⟨rfl, hc, ?_⟩
  exact ((HB2.out.mono (Nat.le_trans HBB.out (Nat.le_of_lt hlt))).setCell (p := ⟨g, 0, none⟩) HBB.out _).trans hb
def ctn (c : List UInt8 × List UInt8) (s : List UInt8) : List UInt8 × List UInt8 := (Hs.macL c.1 (c.2 ++ s), Hs.macL (Hs.macL c.1 (c.2 ++ s)) c.2)
def ch0 (d e : Nat) : List UInt8 × List UInt8 := ctn (ctn (List.replicate 32 0, List.replicate 32 1) (0 :: (nb d ++ nb e))) (1 :: (nb d ++ nb e))
def chA (d e : Nat) : Nat → List UInt8 × List UInt8
  | 0 => ch0 d e
  | i + 1 => ctn ((chA d e i).1, Hs.macL (chA d e i).1 (chA d e i).2) [0]
theorem ctn_len (c : List UInt8 × List UInt8) (s : List UInt8) : (ctn c s).1.length = 32 ∧ (ctn c s).2.length = 32 := ⟨Hs.mac_length _ _, Hs.mac_length _ _⟩
theorem chA_len (d e i : Nat) : (chA d e i).1.length = 32 ∧ (chA d e i).2.length = 32 := by
  cases i with
  | zero => exact ctn_len _ _
  | succ i => exact ctn_len _ _
def vAt (d e i : Nat) : List UInt8 := Hs.macL (chA d e i).1 (chA d e i).2
theorem vAt_len (d e i : Nat) : (vAt d e i).length = 32 := Hs.mac_length _ _
theorem app_size (a b : List UInt8) : ((⟨a.toArray⟩ : ByteArray)).size = a.length := by simp [ByteArray.size]
set_option maxHeartbeats 16000000 in
theorem newChain_any (d e : Nat) (w : World) : Calls Tryz.prog 100 #[nv d, nv e] w fun x w' => ∃ g, x = .returned (.pointer (some ⟨g, 0, none⟩)) ∧ w.heap.size ≤ g ∧ Cn w' g (ch0 d e).1 (ch0 d e).2 ∧ Below w.heap.size w w' := by
  obtain ⟨k0, hk0⟩ : ∃ z, z = List.replicate 32 (0 : UInt8) := ⟨_, rfl⟩
  obtain ⟨v0, hv0⟩ : ∃ z, z = List.replicate 32 (1 : UInt8) := ⟨_, rfl⟩
  have lk0 : k0.length = 32 := by rw [hk0]; decide
  have lv0 : v0.length = 32 := by rw [hv0]; decide
  have HR1 : Hid (∀ w, Calls Tryz.prog 150 #[.string ⟨#[0]⟩, .int .i64 32] w fun e w' => e = .returned (.string ⟨k0.toArray⟩) ∧ Below w.heap.size w w') := Lib.hid fun w => by rw [hk0]; exact Tryz.strings_Repeat ⟨#[0]⟩ 32 w (by decide) (by decide)
  have HR2 : Hid (∀ w, Calls Tryz.prog 150 #[.string ⟨#[1]⟩, .int .i64 32] w fun e w' => e = .returned (.string ⟨v0.toArray⟩) ∧ Below w.heap.size w w') := Lib.hid fun w => by rw [hv0]; exact Tryz.strings_Repeat ⟨#[1]⟩ 32 w (by decide) (by decide)
  have HB1 := Lib.hid (fun w => bytes_any d w)
  have HB2 := Lib.hid (fun w => bytes_any e w)
  have hz1 : (⟨(nb d).toArray⟩ : ByteArray).size ≤ 32 := by rw [app_size _ []]; exact Nat.le_refl _
  have hz2 : (⟨(nb e).toArray⟩ : ByteArray).size ≤ 32 := by rw [app_size _ []]; exact Nat.le_refl _
  have HA := Lib.hid (ByteArray.mk_append_mk (nb d) (nb e))
  have hsl : (nb d ++ nb e).length = 64 := by rw [List.length_append, nb_length, nb_length]
  have hz3 : (⟨(nb d ++ nb e).toArray⟩ : ByteArray).size ≤ 64 := by rw [app_size _ [], hsl]; exact Nat.le_refl _
  have HA0 := Lib.hid (ByteArray.mk_append_mk [0] (nb d ++ nb e))
  have HA1 := Lib.hid (ByteArray.mk_append_mk [1] (nb d ++ nb e))
  have HT1 := Lib.hid (fun B g w h hB => turn_any B g k0 v0 (0 :: (nb d ++ nb e)) lk0 lv0 (by rw [List.length_cons, hsl]; decide) w h hB)
  obtain ⟨c1, hc1⟩ : ∃ c, c = ctn (k0, v0) (0 :: (nb d ++ nb e)) := ⟨_, rfl⟩
  have hcl : c1.1.length = 32 ∧ c1.2.length = 32 := hc1 ▸ ctn_len _ _
  have HT2 := Lib.hid (fun B g w h hB => turn_any B g c1.1 c1.2 (1 :: (nb d ++ nb e)) hcl.1 hcl.2 (by rw [List.length_cons, hsl]; decide) w h hB)
  have HE : Hid (ch0 d e = ctn c1 (1 :: (nb d ++ nb e))) := Lib.hid (by rw [hc1, hk0, hv0]; rfl)
  have HE1 := Lib.hid hc1
  clear hc1 hcl hsl hk0 hv0 lk0 lv0
  simp only [nv, num] at HB1 HB2 ⊢
  generalize (⟨(nb d).toArray⟩ : ByteArray) = db at *
  generalize (⟨(nb e).toArray⟩ : ByteArray) = eb at *
  generalize nb d ++ nb e = sd at *
  obtain ⟨sb, hsb⟩ : ∃ z : ByteArray, z = ⟨sd.toArray⟩ := ⟨_, rfl⟩
  rw [← hsb] at HA HA0 HA1 hz3
  have HSB := Lib.hid hsb
  clear hsb
  have ha := HA.out
  go_enter Tryz.func100, Tryz.ntmps100
  go_wp2_with fail
  refine (keep w.heap.size w (HR1.out _) (by go_grown) (Nat.le_refl _)).mono ?_
  rintro x w1 ⟨rfl, hb1, hk⟩
  have KD : Bk 24 w1 w.heap.size (cs4 d) := Bk.below (Bk.alloc (Bk.new rfl)) hk
  have KE : Bk 24 w1 (w.heap.size + 1) (cs4 e) := Bk.below (Bk.new (by simp)) hk
  clear hk
  go_wp2_with fail
  refine (keep w.heap.size w (HR2.out _) hb1 (Nat.le_refl _)).mono ?_
  rintro x w2 ⟨rfl, hb2, hk⟩
  have KD2 := KD.below hk
  have KE2 := KE.below hk
  clear hk KD KE hb1
  go_upto_region 2 with fail
  have HD : Hid (Bk 24 (w2.alloc (.cells #[.string ⟨k0.toArray⟩, .string ⟨v0.toArray⟩] 175)) w.heap.size (cs4 d)) := Lib.hid (Bk.alloc KD2)
  have HEE : Hid (Bk 24 (w2.alloc (.cells #[.string ⟨k0.toArray⟩, .string ⟨v0.toArray⟩] 175)) (w.heap.size + 1) (cs4 e)) := Lib.hid (Bk.alloc KE2)
  have HCN : Hid (Cn (w2.alloc (.cells #[.string ⟨k0.toArray⟩, .string ⟨v0.toArray⟩] 175)) w2.heap.size k0 v0) := Lib.hid (Bk.new rfl)
  have HB : Hid (Below w.heap.size w (w2.alloc (.cells #[.string ⟨k0.toArray⟩, .string ⟨v0.toArray⟩] 175)) ∧ w.heap.size ≤ w2.heap.size) := Lib.hid ⟨hb2.alloc hb2.size _, hb2.size⟩
  clear KD2 KE2 hb2 HR1 HR2
  generalize w2.alloc (.cells #[.string ⟨k0.toArray⟩, .string ⟨v0.toArray⟩] 175) = W at HD HEE HCN HB ⊢
  generalize w2.heap.size = g at HCN HB ⊢
  obtain ⟨d0, d1, d2, d3⟩ := HD.out.reg
  obtain ⟨e0, e1, e2, e3⟩ := HEE.out.reg
  refine wp_region_quiet_below mixed (by kernel_rfl) ?_
  go_big_quiet_step (fail)
  go_big_quiet_step (exact qg HB1.out)
  go_big_quiet_step (fail)
  go_big_quiet_step (exact qg HB2.out)
  iterate 2 go_big_quiet_step (fail)
  refine wpQuiet_nil ?_
  intro _ hw'
  obtain ⟨⟨dq, osq⟩, hw''⟩ := hw'
  subst hw''
  have HCN2 := Lib.hid (HCN.out.below (below_regrown W dq osq))
  have HB2' := Lib.hid (HB.out.1.trans ((below_regrown W dq osq).mono HB.out.1.size))
  have HGG := Lib.hid HB.out.2
  clear HD HEE HCN HB d0 d1 d2 d3 e0 e1 e2 e3 ha
  generalize grow (redrawn W dq) osq = V at HCN2 HB2' ⊢
  have ha0 := HA0.out
  have ha1 := HA1.out
  go_wp2_with fail
  refine (HT1.out w.heap.size g V HCN2.out HGG.out).mono ?_
  rintro x w3 ⟨rfl, hc, hb⟩
  have HC3 : Hid (Cn w3 g c1.1 c1.2) := Lib.hid (by rw [HE1.out]; exact hc)
  have HB3 := Lib.hid (HB2'.out.trans hb)
  clear hc hb HCN2 HB2' HT1
  go_wp2_with fail
  refine (HT2.out w.heap.size g w3 HC3.out HGG.out).mono ?_
  rintro x w4 ⟨rfl, hc, hb⟩
  have HC4 := Lib.hid hc
  have HB4 := Lib.hid (HB3.out.trans hb)
  clear hc hb HC3 HB3 HT2
  go_wp2_with fail
  go_returns
  exact ⟨g, rfl, HGG.out, by rw [HE.out]; exact HC4.out, HB4.out⟩
theorem ret_two {fn : Func} {R : Ending → World → Prop} {a : Act} {w : World} {p q : Tmp} (h : fn.results = #[.cell p 24, .cell q 24]) (g x k y : Nat) (hp : a.tmps.getD p undef = .pointer (some ⟨g, 0, none⟩)) (hq : a.tmps.getD q undef = .pointer (some ⟨k, 0, none⟩)) (hk : Bk 24 w g (cs4 x)) (hm : Bk 24 w k (cs4 y)) (hd : a.defers = []) (hR : R (.returned (.tuple #[nv x, nv y])) w) : bodyPost Tryz.prog fn R .ret a w := by
  refine bodyPost_ret (v := .tuple #[nv x, nv y]) ?_ hd hR
  have hp' : a.tmps[p]?.getD undef = .pointer (some ⟨g, 0, none⟩) := by simpa using hp
  have hq' : a.tmps[q]?.getD undef = .pointer (some ⟨k, 0, none⟩) := by simpa using hq
  have r1 := run_loadVar_row w g 24 24 (cs4 x) (0, 0) _ hk u24 rfl i24
  have r2 := run_loadVar_row w k 24 24 (cs4 y) (0, 0) _ hm u24 rfl i24
  simp [results, h, hp', hq', asAddr, r1, r2, Sem.run_bind, Result.andThen]
  exact ⟨rfl, rfl⟩
set_option maxHeartbeats 8000000 in
theorem numbers_any (d e k : Nat) (hd : d < mN) (he : e < mN) (hk0 : 0 < k) (hk : k < mN) (w : World) : Calls Tryz.prog 98 #[nv d, nv e, nv k] w fun x w' => x = .returned (.tuple #[nv (rOf k), nv (tOf d e k)]) ∧ Below w.heap.size w w' := by
  have hW := mN_W
  obtain ⟨_, _, hok⟩ := pub_on k (by omega)
  have HB := Lib.hid (timesBase_any k (by omega))
  have HL := Lib.hid (sleft_any (pubOf k).x hok.1)
  have HM1 := Lib.hid (smul_any (rOf k) d (Nat.lt_trans (rOf_lt k) hW) (by omega))
  have h2 := add_any 1 e (rOf k * d % mN) (by omega) (Nat.lt_trans (Nat.mod_lt _ mN_pos) hW)
  rw [md1'] at h2
  have HA := Lib.hid h2
  have HI := Lib.hid (sinv_any k hk0 hk)
  have HM2 := Lib.hid (smul_any ((e + rOf k * d % mN) % mN) (iM k) (Nat.lt_trans (Nat.mod_lt _ mN_pos) hW) (Nat.lt_trans (iM_lt k) hW))
  have et : tOf d e k = (e + rOf k * d % mN) % mN * iM k % mN := rfl
  have er : (pubOf k).x % mN = rOf k := rfl
  rw [← et] at HM2
  rw [er] at HL
  clear h2 et er hW hd he hk0 hk hok
  generalize tOf d e k = t at *
  generalize (e + rOf k * d % mN) % mN = s at *
  generalize rOf k * d % mN = rd at *
  generalize rOf k = r at *
  generalize iM k = i at *
  generalize pubOf k = q at *
  obtain ⟨x, y, b⟩ := q
  unfold Po.v pn at HB
  simp only [nv, num] at HB HL HM1 HM2 HA HI ⊢
  go_enter Tryz.func98, Tryz.ntmps98
  go_wp2_with fail
  refine (keep w.heap.size w (HB.out _) (by go_grown) (Nat.le_refl _)).mono ?_
  rintro z w1 ⟨rfl, hb1, hk⟩
  have KD : Bk 24 w1 w.heap.size (cs4 d) := Bk.below (Bk.alloc (Bk.alloc (Bk.alloc (Bk.alloc (Bk.new rfl))))) hk
  have KE : Bk 24 w1 (w.heap.size + 1) (cs4 e) := Bk.below (Bk.alloc (Bk.alloc (Bk.alloc (Bk.new (by simp))))) hk
  have KK : Bk 24 w1 (w.heap.size + 1 + 1) (cs4 k) := Bk.below (Bk.alloc (Bk.alloc (Bk.new (by simp)))) hk
  have KR : Bk 24 w1 (w.heap.size + 1 + 1 + 1) cs0 := Bk.below (Bk.alloc (Bk.new (by simp))) hk
  have KT : Bk 24 w1 (w.heap.size + 1 + 1 + 1 + 1) cs0 := Bk.below (Bk.new (by simp)) hk
  clear hk
  have hfd : ∀ w : World, (Instr.field 26 (.agg #[.int .u64 (lb x 0 : Nat), .int .u64 (lb x 1 : Nat), .int .u64 (lb x 2 : Nat), .int .u64 (lb x 3 : Nat), .int .u64 (lb y 0 : Nat), .int .u64 (lb y 1 : Nat), .int .u64 (lb y 2 : Nat), .int .u64 (lb y 3 : Nat), .bool b]) 0).run Tryz.prog w = .ok (.agg #[.int .u64 (lb x 0 : Nat), .int .u64 (lb x 1 : Nat), .int .u64 (lb x 2 : Nat), .int .u64 (lb x 3 : Nat)]) w := fun _ => by kernel_rfl
  go_wp2_with fail
  clear hfd
  refine (keep w.heap.size w (HL.out _) hb1 (Nat.le_refl _)).mono ?_
  rintro z w2 ⟨rfl, hb2, hk⟩
  have KD2 := KD.below hk
  have KE2 := KE.below hk
  have KK2 := KK.below hk
  have KR2 := KR.below hk
  have KT2 := KT.below hk
  clear hk KD KE KK KR KT hb1
  obtain ⟨gd, hgd⟩ : ∃ g, g = w.heap.size := ⟨_, rfl⟩
  obtain ⟨ge, hge⟩ : ∃ g, g = w.heap.size + 1 := ⟨_, rfl⟩
  obtain ⟨gk, hgk⟩ : ∃ g, g = w.heap.size + 1 + 1 := ⟨_, rfl⟩
  obtain ⟨gr, hgr⟩ : ∃ g, g = w.heap.size + 1 + 1 + 1 := ⟨_, rfl⟩
  obtain ⟨gt, hgt⟩ : ∃ g, g = w.heap.size + 1 + 1 + 1 + 1 := ⟨_, rfl⟩
  rw [← hgt] at KT2 ⊢
  rw [← hgr] at KR2 ⊢
  rw [← hgk] at KK2 ⊢
  rw [← hge] at KE2 ⊢
  have HG := Lib.hid (show w.heap.size ≤ gr ∧ w.heap.size ≤ gt ∧ gd ≠ gr ∧ ge ≠ gr ∧ gk ≠ gr ∧ gt ≠ gr ∧ gr ≠ gt by omega)
  rw [← hgd] at KD2
  have eg := Lib.hid hgd
  rw [show (Value.pointer (some ⟨w.heap.size, 0, none⟩)) = .pointer (some ⟨gd, 0, none⟩) by rw [hgd]]
  clear hgd hge hgk hgr hgt
  obtain ⟨f0, f1, f2, f3⟩ := KR2.fros
  obtain ⟨j0, j1, j2, j3⟩ := KR2.cells
  go_upto_region 2 with fail
  have HB3 : Hid (Below w.heap.size w ((((w2.setCell ⟨gr, 0, none⟩ (.int .u64 (lb r 0 : Nat))).setCell ⟨gr, 1, none⟩ (.int .u64 (lb r 1 : Nat))).setCell ⟨gr, 2, none⟩ (.int .u64 (lb r 2 : Nat))).setCell ⟨gr, 3, none⟩ (.int .u64 (lb r 3 : Nat)))) := Lib.hid ((((hb2.setCell (p := ⟨gr, 0, none⟩) HG.out.1 _).setCell (p := ⟨gr, 1, none⟩) HG.out.1 _).setCell (p := ⟨gr, 2, none⟩) HG.out.1 _).setCell (p := ⟨gr, 3, none⟩) HG.out.1 _)
  have KD3 := Lib.hid (Bk.puto (a' := .int .u64 (lb r 0 : Nat)) (b' := .int .u64 (lb r 1 : Nat)) (c' := .int .u64 (lb r 2 : Nat)) (d' := .int .u64 (lb r 3 : Nat)) HG.out.2.2.1 KD2)
  have KE3 := Lib.hid (Bk.puto (a' := .int .u64 (lb r 0 : Nat)) (b' := .int .u64 (lb r 1 : Nat)) (c' := .int .u64 (lb r 2 : Nat)) (d' := .int .u64 (lb r 3 : Nat)) HG.out.2.2.2.1 KE2)
  have KK3 := Lib.hid (Bk.puto (a' := .int .u64 (lb r 0 : Nat)) (b' := .int .u64 (lb r 1 : Nat)) (c' := .int .u64 (lb r 2 : Nat)) (d' := .int .u64 (lb r 3 : Nat)) HG.out.2.2.2.2.1 KK2)
  have KT3 := Lib.hid (Bk.puto (a' := .int .u64 (lb r 0 : Nat)) (b' := .int .u64 (lb r 1 : Nat)) (c' := .int .u64 (lb r 2 : Nat)) (d' := .int .u64 (lb r 3 : Nat)) HG.out.2.2.2.2.2.1 KT2)
  have KR3 : Hid (Bk 24 ((((w2.setCell ⟨gr, 0, none⟩ (.int .u64 (lb r 0 : Nat))).setCell ⟨gr, 1, none⟩ (.int .u64 (lb r 1 : Nat))).setCell ⟨gr, 2, none⟩ (.int .u64 (lb r 2 : Nat))).setCell ⟨gr, 3, none⟩ (.int .u64 (lb r 3 : Nat))) gr (cs4 r)) := Lib.hid (Bk.put KR2)
  clear f0 f1 f2 f3 j0 j1 j2 j3 KD2 KE2 KK2 KT2 KR2 hb2
  generalize ((((w2.setCell ⟨gr, 0, none⟩ (.int .u64 (lb r 0 : Nat))).setCell ⟨gr, 1, none⟩ (.int .u64 (lb r 1 : Nat))).setCell ⟨gr, 2, none⟩ (.int .u64 (lb r 2 : Nat))).setCell ⟨gr, 3, none⟩ (.int .u64 (lb r 3 : Nat))) = W at *
  unfold cs4 at KD3 KE3 KK3 KR3
  obtain ⟨d0, d1, d2, d3⟩ := KD3.out.reg
  obtain ⟨e0, e1, e2, e3⟩ := KE3.out.reg
  obtain ⟨k0, k1, k2, k3⟩ := KK3.out.reg
  obtain ⟨r0, r1, r2, r3⟩ := KR3.out.reg
  refine wp_region_below_tail 9 mixed (by kernel_rfl) ?_
  simp only [List.take_succ_cons, List.take_zero, List.drop_succ_cons, List.drop_zero]
  iterate 4 go_big_quiet_step (fail)
  go_big_quiet_step (exact qg HM1.out)
  go_big_quiet_step (exact qg HA.out)
  go_big_quiet_step (fail)
  go_big_quiet_step (exact qg HI.out)
  go_big_quiet_step (exact qg HM2.out)
  refine wpQuiet_nil ?_
  intro _ hw'
  obtain ⟨⟨dq, osq⟩, hw''⟩ := hw'
  subst hw''
  have KR4 := Lib.hid (KR3.out.regrown dq osq)
  have KT4 := Lib.hid (KT3.out.regrown dq osq)
  have HB4 := Lib.hid (HB3.out.trans ((below_regrown W dq osq).mono HB3.out.size))
  clear KD3 KE3 KK3 KR3 KT3 HB3 d0 d1 d2 d3 e0 e1 e2 e3 k0 k1 k2 k3 r0 r1 r2 r3
  generalize grow (redrawn W dq) osq = V at KR4 KT4 HB4 ⊢
  obtain ⟨f0, f1, f2, f3⟩ := KR4.out.fros
  obtain ⟨j0, j1, j2, j3⟩ := KR4.out.cells
  have KR5 : Hid (Bk 24 ((((V.setCell ⟨gr, 0, none⟩ (.int .u64 (lb r 0 : Nat))).setCell ⟨gr, 1, none⟩ (.int .u64 (lb r 1 : Nat))).setCell ⟨gr, 2, none⟩ (.int .u64 (lb r 2 : Nat))).setCell ⟨gr, 3, none⟩ (.int .u64 (lb r 3 : Nat))) gr (cs4 r)) := Lib.hid (Bk.put KR4.out)
  have KT5 := Lib.hid (Bk.puto (a' := .int .u64 (lb r 0 : Nat)) (b' := .int .u64 (lb r 1 : Nat)) (c' := .int .u64 (lb r 2 : Nat)) (d' := .int .u64 (lb r 3 : Nat)) HG.out.2.2.2.2.2.1 KT4.out)
  obtain ⟨h0, h1, h2, h3⟩ := KT5.out.fros
  obtain ⟨i0, i1, i2, i3⟩ := KT5.out.cells
  go_wp2_with fail
  refine ret_two rfl gr r gt t rfl rfl (Bk.puto HG.out.2.2.2.2.2.2 KR5.out) (Bk.put KT5.out) rfl ⟨rfl, ?_⟩
  have hb := HB4.out
  have hg1 := HG.out.1
  have hg2 := HG.out.2.1
  go_grown
end Go.Proofs.YtpggkfdijmnmiaaGreat
namespace Go.Proofs.YtpggkfdijmnmiaaGreat
open Go.RowKit Go.Shelf Limbs
def Up (B : Nat) (A C : World) : Prop := A.heap.size ≤ C.heap.size ∧ ∀ q, B ≤ q → q < A.heap.size → C.heap[q]? = A.heap[q]?
theorem Up.refl (B : Nat) (A : World) : Up B A A := ⟨Nat.le_refl _, fun _ _ _ => rfl⟩
theorem Up.trans {B : Nat} {A C D : World} (h : Up B A C) (k : Up B C D) : Up B A D := ⟨Nat.le_trans h.1 k.1, fun q hq hl => (k.2 q hq (Nat.lt_of_lt_of_le hl h.1)).trans (h.2 q hq hl)⟩
theorem Up.mono {B B' : Nat} {A C : World} (h : Up B A C) (hB : B ≤ B') : Up B' A C := ⟨h.1, fun q hq hl => h.2 q (Nat.le_trans hB hq) hl⟩
theorem Up.put {B l : Nat} {A : World} {o : Obj} (hl : l < B) : Up B A (A.putObj l o) := ⟨Nat.le_of_eq World.putObj_size.symm, fun q hq _ => World.putObj_heap_other (by omega)⟩
theorem put_below {B l : Nat} {A C : World} {o : Obj} (h : Below B A C) (hl : B ≤ l) : Below B A (C.putObj l o) :=
  ⟨h.os, h.tape, h.output, Nat.le_trans h.size (Nat.le_of_eq World.putObj_size.symm), fun q hq => (World.putObj_heap_other (by omega)).trans (h.block q hq)⟩
def OnBelow {β : Type} (B : Nat) (J : β → World → Prop) : Prop := ∀ s A C, J s A → Below B A C → J s C
def Yields {α : Type} (F : Fence) (n : Nat) (P : Program) (g : Nat) (lb : Array Value) (encs : α → Array Value) (xs : List α) (w : World) : Prop :=
  ∀ (l : Nat) (J Jx : List α → World → Prop) (W : World), Below w.heap.size w W → OnBelow W.heap.size J → OnBelow W.heap.size Jx →
    (∀ pre x W1, J pre W1 → pre ++ [x] <+: xs → W.heap.size ≤ W1.heap.size → YieldAt F (n - 1) P l (encs x) W1 fun e W' =>
      (e = .returned (.bool true) ∧ J (pre ++ [x]) W' ∧ Up W.heap.size W1 W') ∨ (e = .returned (.bool false) ∧ Jx (pre ++ [x]) W')) →
    J [] W →
    CallsIn F n P g (#[.func (.yield l) #[] #[]] ++ lb) W fun e W' => (∃ v, e = .returned v) ∧ (J xs W' ∨ ∃ pre, pre <+: xs ∧ Jx pre W')
def upPost {α : Type} (B : Nat) (I : List α → World → Prop) (Ix : List α → World → Prop) (xs : List α) (W : World) : Exit → Act → World → Prop
  | .normal, _, W' => Up B W W' ∧ I xs W'
  | .ret, _, W' => Up B W W' ∧ Ix xs W'
  | _, _, _ => False
structure Aside (B : Nat) (A C : World) : Prop where
  below : Below B A C
  size : C.heap.size = A.heap.size
  above : ∀ q, B + 2 ≤ q → C.heap[q]? = A.heap[q]?
theorem range_yields {F : Fence} {n : Nat} {P : Program} {α : Type} {g : Operand} {ps : Array Tmp} {assign body : Code} {Q : Exit → Act → World → Prop} {a : Act} {w : World}
    (hro : F.round = none) (h1 : 1 ≤ n) {gf : Nat} {lb : Array Value} (hg : a.eval g = .func (.func gf) #[] lb) (hFg : F.fn gf) (eg : ∀ args w, (callFunc gf args).run P w = .ok (.enter gf args) w)
    {encs : α → Array Value} {xs : List α} (hseq : Yields F (n - 1) P gf lb encs xs w) (hps : ∀ x, (encs x).size = ps.size)
    (I Ix : List α → World → Prop) (hI : OnBelow w.heap.size I) (hIx : OnBelow w.heap.size Ix) (h0 : I [] w)
    (hround : ∀ (l : Nat) (pre : List α) (x : α) (W : World), I pre W → pre ++ [x] <+: xs → w.heap.size + 2 ≤ W.heap.size →
      assign.wpIn (F.inRound l) (n - 1 - 1) P (Exit.then (fun a1 W1 => Below W.heap.size W W1 ∧ ∀ W2, Aside w.heap.size W1 W2 → body.wpIn (F.inRound l) (n - 1 - 1) P (upPost w.heap.size I Ix (pre ++ [x]) W2) a1 W2) (fun _ _ _ => False)) { tmps := (ps.zip (encs x)).foldl (fun t (p, v) => t.setIfInBounds p v) a.tmps, defers := [] } W)
    (hdone : ∀ (D : Nat) (W : World), w.heap.size ≤ D → I xs W → W.heap[D]? = some (.deferred (some [])) → Q .normal { a with defers := { target := .collected D, args := #[] } :: a.defers } W)
    (hstop : ∀ (D : Nat) (pre : List α) (W : World), w.heap.size ≤ D → pre <+: xs → Ix pre W → W.heap[D]? = some (.deferred (some [])) → Code.ret.wpIn F n P Q { a with defers := { target := .collected D, args := #[] } :: a.defers } W) :
    (Code.rangeFunc g ps assign body).wpIn F n P Q a w := by
  refine wpIn_rangeFunc fun fn hfn => ?_
  rw [hro]
  let R : LoopState → Option Code → Obj := fun st pe => .loop { state := st, pending := pe, fn, tmps := a.tmps, params := ps, assign, body, defers := w.heap.size }
  obtain ⟨U, hU⟩ : ∃ U, (w.alloc (.deferred (some []))).alloc (R .ready none) = U := ⟨_, rfl⟩
  have hUs : U.heap.size = w.heap.size + 2 := by rw [← hU]; simp
  have hUb : Below w.heap.size w U := by
    rw [← hU]
    exact ((Below.refl _ w).alloc (Nat.le_refl _) _).alloc (by simp) _
  have hUl : U.heap[w.heap.size + 1]? = some (R .ready none) := by
    have := World.alloc_heap_new (w.alloc (.deferred (some []))) (R .ready none)
    rw [World.size_alloc, hU] at this
    exact this
  have hUd : U.heap[w.heap.size]? = some (.deferred (some [])) := by
    rw [← hU]
    exact (Below.heap_alloc _ _ _ (by simp)).trans (World.alloc_heap_new w _)
  let J : List α → World → Prop := fun pre W => I pre W ∧ W.heap[w.heap.size + 1]? = some (R .ready none) ∧ W.heap[w.heap.size]? = some (.deferred (some []))
  let Jx : List α → World → Prop := fun pre W => Ix pre W ∧ W.heap[w.heap.size + 1]? = some (R .done (some .ret)) ∧ W.heap[w.heap.size]? = some (.deferred (some []))
  have hJ : OnBelow U.heap.size J := fun s A C h hb => ⟨hI s A C h.1 (hb.mono hUb.size), (hb.block _ (by omega)).trans h.2.1, (hb.block _ (by omega)).trans h.2.2⟩
  have hJx : OnBelow U.heap.size Jx := fun s A C h hb => ⟨hIx s A C h.1 (hb.mono hUb.size), (hb.block _ (by omega)).trans h.2.1, (hb.block _ (by omega)).trans h.2.2⟩
  refine ⟨w.heap.size + 1, [{ target := .collected w.heap.size, args := #[] }], U, { target := .fn (.func gf) lb, args := #[.func (.yield (w.heap.size + 1)) #[] #[]] }, U, gf, #[.func (.yield (w.heap.size + 1)) #[] #[]] ++ lb, U, ?_, ?_, ?_, ?_, fun _ => h1, ?_⟩
  · rw [← hU]
    exact run_enterLoop_outer _ _ _ _ _
  · simp only [resolve, hg]
    simp [go_sem]
  · intro f' hf'
    simp [Target.leads] at hf'
    subst hf'
    exact hFg
  · simp [invoke, go_sem, eg]
  refine (hseq (w.heap.size + 1) J Jx U hUb hJ hJx ?_ ⟨hI _ _ _ h0 hUb, hUl, hUd⟩).mono ?_
  · rintro pre x W ⟨hi, hl, hd⟩ hpre hsz
    have hltW : w.heap.size + 1 < W.heap.size := (Array.getElem?_eq_some_iff.1 hl).1
    refine ⟨fn, _, assign, body, run_yield hl (hps x), roundIn_of_wpIn hfn (wpIn_mono (hround _ pre x W hi hpre (by omega)) ?_)⟩
    intro e0 a1 V hV
    cases e0 with
    | normal => ?_
    | ret => exact hV
    | exit id => exact hV
    | goto t => exact hV
    | panic ch => exact hV
    | outgrown => exact hV
    obtain ⟨hbV, hbody⟩ := hV
    have hlV : V.heap[w.heap.size + 1]? = some (R .ready none) := (hbV.block _ hltW).trans hl
    have hdV : V.heap[w.heap.size]? = some (.deferred (some [])) := (hbV.block _ (by omega)).trans hd
    have hlt : w.heap.size + 1 < V.heap.size := (Array.getElem?_eq_some_iff.1 hlV).1
    have hl2 : (V.putObj (w.heap.size + 1) (R .busy none)).heap[w.heap.size + 1]? = some (R .busy none) := World.putObj_heap_same hlt
    have hd2 : (V.putObj (w.heap.size + 1) (R .busy none)).heap[w.heap.size]? = some (.deferred (some [])) := (World.putObj_heap_other (by omega)).trans hdV
    have hsz2 : (V.putObj (w.heap.size + 1) (R .busy none)).heap.size = V.heap.size := World.putObj_size
    have hlt2 : w.heap.size + 1 < (V.putObj (w.heap.size + 1) (R .busy none)).heap.size := hsz2.symm ▸ hlt
    have hlt3 : w.heap.size < (V.putObj (w.heap.size + 1) (R .busy none)).heap.size := Nat.lt_of_succ_lt hlt2
    have hupV : Up U.heap.size W (V.putObj (w.heap.size + 1) (R .busy none)) := ⟨hsz2.symm ▸ hbV.size, fun q hq hlq => (World.putObj_heap_other (by omega)).trans (hbV.block q hlq)⟩
    refine ⟨_, run_beginRound hlV rfl, ?_⟩
    refine wpIn_mono (hbody _ ⟨put_below (Below.refl _ V) (by omega), hsz2, fun q hq => World.putObj_heap_other (by omega)⟩) ?_
    intro e a3 W3 hp
    cases e with
    | normal =>
      obtain ⟨hup, hi3⟩ := hp
      have hl3 := (hup.2 _ (Nat.le_succ _) hlt2).trans hl2
      refine ⟨_, _, run_endRound none hl3, .inl ⟨rfl, ⟨hI _ _ _ hi3 (put_below (Below.refl _ W3) (by omega)), World.putObj_heap_same (Array.getElem?_eq_some_iff.1 hl3).1, (World.putObj_heap_other (by omega)).trans ((hup.2 _ (Nat.le_refl _) hlt3).trans hd2)⟩, ?_⟩⟩
      exact (hupV.trans (hup.mono hUb.size)).trans (Up.put (by omega))
    | ret =>
      obtain ⟨hup, hi3⟩ := hp
      have hl3 := (hup.2 _ (Nat.le_succ _) hlt2).trans hl2
      exact ⟨_, _, run_endRound (some .ret) hl3, .inr ⟨rfl, hIx _ _ _ hi3 (put_below (Below.refl _ W3) (by omega)), World.putObj_heap_same (Array.getElem?_eq_some_iff.1 hl3).1, (World.putObj_heap_other (by omega)).trans ((hup.2 _ (Nat.le_refl _) hlt3).trans hd2)⟩⟩
    | exit id => exact hp.elim
    | goto t => exact hp.elim
    | panic ch => exact hp.elim
    | outgrown => exact hp.elim
  · rintro e W2 ⟨⟨v, rfl⟩, ⟨hi, hl, hd⟩ | ⟨pre, hpre, hi, hl, hd⟩⟩
    · exact ⟨none, _, run_endLoop hl (by simp), hdone _ _ (Nat.le_refl _) (hI _ _ _ hi (put_below (Below.refl _ W2) (by omega))) ((World.putObj_heap_other (by omega)).trans hd)⟩
    · exact ⟨some .ret, _, run_endLoop hl (by simp), hstop _ pre _ (Nat.le_refl _) hpre (hIx _ _ _ hi (put_below (Below.refl _ W2) (by omega))) ((World.putObj_heap_other (by omega)).trans hd)⟩
attribute [local go_sem] Oper.semAt_some
abbrev Nz := { x : Nat // 0 < x ∧ x < mN }
def kAt (d e i : Nat) : Nat := bv (vAt d e i)
def nzL (d e : Nat) : Nat → List Nz
  | 0 => []
  | i + 1 => nzL d e i ++ (if h : 0 < kAt d e i ∧ kAt d e i < mN then [⟨kAt d e i, h⟩] else [])
theorem nzL_pre (d e : Nat) {i j : Nat} (h : i ≤ j) : nzL d e i <+: nzL d e j := by
  induction j with
  | zero =>
    obtain rfl : i = 0 := by omega
    exact List.prefix_refl _
  | succ j ih =>
    rcases Nat.lt_or_ge j i with h1 | h1
    · obtain rfl : i = j + 1 := by omega
      exact List.prefix_refl _
    · exact (ih h1).trans (List.prefix_append _ _)
theorem nzL_yes {d e i : Nat} (h : 0 < kAt d e i ∧ kAt d e i < mN) : nzL d e (i + 1) = nzL d e i ++ [⟨kAt d e i, h⟩] := by rw [nzL, dif_pos h]
theorem nzL_no {d e i : Nat} (h : ¬ (0 < kAt d e i ∧ kAt d e i < mN)) : nzL d e (i + 1) = nzL d e i := by rw [nzL, dif_neg h, List.append_nil]
theorem number_at (d e i : Nat) : ∃ z ok, (∀ w, Calls Tryz.prog 60 #[.string ⟨(vAt d e i).toArray⟩] w fun x w' => x = .returned (.tuple #[nv z, .bool ok]) ∧ Below w.heap.size w w') ∧ (ok = decide (0 < kAt d e i ∧ kAt d e i < mN)) ∧ (ok = true → z = kAt d e i) := by
  by_cases h : bv (vAt d e i) < mN
  · exact ⟨bv (vAt d e i), _, fun w => number_yes _ (vAt_len d e i) h w, rfl, fun _ => rfl⟩
  · refine ⟨0, false, fun w => number_no _ (by rw [vAt_len]; decide) (fun hc => h hc.2) w, ?_, fun hc => by cases hc⟩
    rw [decide_eq_false]
    exact fun hc => h hc.2
theorem Cn.up {B g : Nat} {A C : World} {k v : List UInt8} (h : Cn A g k v) (hu : Up B A C) (hB : B ≤ g) : Cn C g k v := (hu.2 g hB (Bk.lt h)).trans h
set_option maxHeartbeats 16000000 in
theorem nonces_yield (n : Nat) (hn : 3 ≤ n) (b1 b2 : Nat) (d e : Nat) (w : World) (k1 : Bk 24 w b1 (cs4 d)) (k2 : Bk 24 w b2 (cs4 e)) :
    Yields Fence.wide n Tryz.prog 99 #[.pointer (some ⟨b1, 0, none⟩), .pointer (some ⟨b2, 0, none⟩)] (fun x : Nz => #[nv x.1]) (nzL d e 16) w := by
  intro l J Jx W hW hJ hJx hY h0
  obtain ⟨c0, c1, c2, c3⟩ := (Bk.below k1 hW).cells
  obtain ⟨c4, c5, c6, c7⟩ := (Bk.below k2 hW).cells
  have HY := Lib.hid hY
  have HJ := Lib.hid hJ
  have H0 := Lib.hid h0
  have HNC := Lib.hid (newChain_any d e W)
  clear hY hJ h0 k1 k2 hW
  simp only [nv, num] at HNC
  refine callsIn_of_wp Tryz.func99 rfl trivial ?_ rfl
  simp only [Tryz.ntmps99, List.size_toArray, List.length_cons, List.length_nil, Nat.reduceAdd, Nat.reduceSub, Array.replicate_succ, Array.replicate_zero, List.push_toArray, List.append_toArray, List.nil_append, List.cons_append]
  gi_wp2
  refine ⟨trivial, fun _ => by omega, ?_⟩
  refine (callsIn_wide.2 HNC.out).mono ?_
  rintro x w1 ⟨g, rfl, hg, hc, hb⟩
  have HG := Lib.hid hg
  have HC1 : Hid (Cn w1 g (chA d e 0).1 (chA d e 0).2) := Lib.hid hc
  have HJ1 : Hid (J (nzL d e 0) w1) := Lib.hid (HJ.out _ _ _ H0.out hb)
  have HS1 := Lib.hid hb.size
  clear hg hc hb HNC H0
  gi_wp2
  gi_loopw [10] (fun p wr => ∃ i : Nat, i ≤ 16 ∧ p = .int .i64 (i : Int) ∧ Hid (J (nzL d e i) wr ∧ Cn wr g (chA d e i).1 (chA d e i).2 ∧ W.heap.size ≤ wr.heap.size)) (fun p wr => 16 - (intOf p).toNat)
  case atStart => exact ⟨0, by omega, rfl, Lib.hid ⟨HJ1.out, HC1.out, HS1.out⟩⟩
  case round =>
    clear HJ1 HC1 HS1
    obtain ⟨i, hi, rfl, HR⟩ := hrel
    by_cases hlt : i < 16
    · have hltI : (i : Int) < 16 := by omega
      have HNX := Lib.hid (next_any W.heap.size g (chA d e i).1 (chA d e i).2 (chA_len d e i).1 (chA_len d e i).2 wr HR.out.2.1 HG.out)
      obtain ⟨z, ok, hz, hok, hzk⟩ := number_at d e i
      have HZ := Lib.hid hz
      have HOK := Lib.hid hok
      have HZK := Lib.hid hzk
      clear hz hok hzk
      have HTN := Lib.hid (fun V h => turn_any W.heap.size g (chA d e i).1 (vAt d e i) [0] (chA_len d e i).1 (vAt_len d e i) (by decide) V h HG.out)
      have HST : Hid (ctn ((chA d e i).1, vAt d e i) [0] = chA d e (i + 1)) := Lib.hid rfl
      have HVA : Hid (Hs.macL (chA d e i).1 (chA d e i).2 = vAt d e i) := Lib.hid rfl
      rw [HVA.out] at HNX
      clear HVA
      simp only [nv, num] at HZ
      generalize (⟨(vAt d e i).toArray⟩ : ByteArray) = vb at *
      gi_wp2
      refine ⟨trivial, fun _ => by omega, ?_⟩
      refine (callsIn_wide.2 HNX.out).mono ?_
      rintro x w2 ⟨rfl, hc2, hb2⟩
      have HC2 := Lib.hid hc2
      have HJ2 := Lib.hid (HJ.out _ _ _ HR.out.1 hb2)
      have HS2 := Lib.hid (Nat.le_trans HR.out.2.2 hb2.size)
      clear hc2 hb2 HNX
      gi_wp2
      refine ⟨trivial, fun _ => by omega, ?_⟩
      refine (callsIn_wide.2 (HZ.out _)).mono ?_
      rintro x w3 ⟨rfl, hb3⟩
      have HC3 := Lib.hid (HC2.out.below hb3)
      have HJ3 := Lib.hid (HJ.out _ _ _ HJ2.out (hb3.mono HS2.out))
      have HS3 := Lib.hid (Nat.le_trans HS2.out hb3.size)
      clear hb3 HZ HC2 HJ2 HS2
      have HC4 : Hid (Cn (w3.alloc (.cells #[.int .u64 (lb z 0 : Nat), .int .u64 (lb z 1 : Nat), .int .u64 (lb z 2 : Nat), .int .u64 (lb z 3 : Nat)] 24)) g (chA d e i).1 (vAt d e i)) := Lib.hid (Bk.alloc HC3.out)
      have HJ4 : Hid (J (nzL d e i) (w3.alloc (.cells #[.int .u64 (lb z 0 : Nat), .int .u64 (lb z 1 : Nat), .int .u64 (lb z 2 : Nat), .int .u64 (lb z 3 : Nat)] 24))) := Lib.hid (HJ.out _ _ _ HJ3.out ((Below.refl _ w3).alloc HS3.out _))
      have HS4 : Hid (W.heap.size ≤ (w3.alloc (.cells #[.int .u64 (lb z 0 : Nat), .int .u64 (lb z 1 : Nat), .int .u64 (lb z 2 : Nat), .int .u64 (lb z 3 : Nat)] 24)).heap.size) := Lib.hid (by have := HS3.out; simp; omega)
      clear HC3 HJ3
      cases ok with
      | true =>
        have hk := of_decide_eq_true HOK.out.symm
        obtain ⟨fn, tmps, assign, body, hy, hR⟩ := HY.out (nzL d e i) ⟨kAt d e i, hk⟩ _ HJ4.out (nzL_yes hk ▸ nzL_pre d e (by omega)) HS4.out
        have HN : Hid (nzL d e (i + 1) = nzL d e i ++ [⟨kAt d e i, hk⟩]) := Lib.hid (nzL_yes hk)
        have HRR := Lib.hid hR
        have hzz := HZK.out rfl
        simp only [nv, num] at hy
        rw [← hzz] at hy
        clear hR hzz HOK HZK HJ4
        gi_wp2
        refine ⟨fun _ => by omega, ?_⟩
        refine HRR.out.mono ?_
        rintro x w4 (⟨rfl, hj, hu⟩ | ⟨rfl, hjx⟩)
        · have HC5 := Lib.hid (HC4.out.up hu HG.out)
          have HJ5 : Hid (J (nzL d e (i + 1)) w4) := Lib.hid (by rw [HN.out]; exact hj)
          have HS5 := Lib.hid (Nat.le_trans HS4.out hu.1)
          clear hj hu HC4 HS4 HRR
          gi_wp2
          refine ⟨trivial, fun _ => by omega, ?_⟩
          refine (callsIn_wide.2 (HTN.out _ HC5.out)).mono ?_
          rintro x w5 ⟨rfl, hc, hb⟩
          have HC6 : Hid (Cn w5 g (chA d e (i + 1)).1 (chA d e (i + 1)).2) := Lib.hid (by rw [← HST.out]; exact hc)
          have HJ6 := Lib.hid (HJ.out _ _ _ HJ5.out hb)
          have HS6 := Lib.hid (Nat.le_trans HS5.out hb.size)
          clear hc hb HC5 HJ5 HS5 HTN HST
          gi_wp2
          go_roundw
          case rel => exact ⟨i + 1, by omega, by go_num, Lib.hid ⟨HJ6.out, HC6.out, HS6.out⟩⟩
          case measure => simp [intOf]; omega
        · gi_wp2
          refine bodyPost_ret (results_none rfl _ _ _) rfl ?_
          exact ⟨⟨_, rfl⟩, .inr ⟨_, HN.out ▸ nzL_pre d e (show i + 1 ≤ 16 by omega), hjx⟩⟩
      | false =>
        have hk := of_decide_eq_false HOK.out.symm
        have HC5 := HC4
        have HJ5 : Hid (J (nzL d e (i + 1)) (w3.alloc (.cells #[.int .u64 (lb z 0 : Nat), .int .u64 (lb z 1 : Nat), .int .u64 (lb z 2 : Nat), .int .u64 (lb z 3 : Nat)] 24))) := Lib.hid (by rw [nzL_no hk]; exact HJ4.out)
        have HS5 := HS4
        clear hk HOK HZK HC4 HJ4 HS4
        gi_wp2
        refine ⟨(fun _ h => by cases h), ?_⟩
        gi_wp2
        refine ⟨trivial, fun _ => by omega, ?_⟩
        refine (callsIn_wide.2 (HTN.out _ HC5.out)).mono ?_
        rintro x w5 ⟨rfl, hc, hb⟩
        have HC6 : Hid (Cn w5 g (chA d e (i + 1)).1 (chA d e (i + 1)).2) := Lib.hid (by rw [← HST.out]; exact hc)
        have HJ6 := Lib.hid (HJ.out _ _ _ HJ5.out hb)
        have HS6 := Lib.hid (Nat.le_trans HS5.out hb.size)
        clear hc hb HC5 HJ5 HS5 HTN HST
        gi_wp2
        go_roundw
        case rel => exact ⟨i + 1, by omega, by go_num, Lib.hid ⟨HJ6.out, HC6.out, HS6.out⟩⟩
        case measure => simp [intOf]; omega
    · obtain rfl : i = 16 := by omega
      gi_wp2
      go_end0
      exact ⟨⟨_, rfl⟩, .inl HR.out.1⟩
end Go.Proofs.YtpggkfdijmnmiaaGreat
namespace Go.Proofs.YtpggkfdijmnmiaaGreat
open Go.RowKit Go.Shelf Go.Sort Limbs
attribute [local go_sem] Oper.semAt_some
def fR : Code → Nat → Option (Array Oper)
  | .region id ops _, n => if id = n then some ops else none
  | .seq a b, n => (fR a n).or (fR b n)
  | .cond _ a b, n => (fR a n).or (fR b n)
  | .block _ a, n => fR a n
  | .loop a, n => fR a n
  | .scope a, n => fR a n
  | .rangeFunc _ _ a b, n => (fR a n).or (fR b n)
  | _, _ => none
theorem up_of_below {B : Nat} {A C : World} (h : Below A.heap.size A C) : Up B A C := ⟨h.size, fun q _ hl => h.block q hl⟩
theorem up_set {B b i : Nat} {A : World} {v : Value} (hb : b < B) : Up B A (A.setCell ⟨b, i, none⟩ v) := by
  refine ⟨Nat.le_of_eq ?_, fun q hq _ => Below.heap_setCell A ⟨b, i, none⟩ v q (by simp; omega)⟩
  simp
noncomputable def sg4O : Array Oper := (Tryz.f50.body.bind fun c => fR c 4).getD #[]
set_option maxHeartbeats 16000000 in
theorem sg4 (l g9 g10 : Nat) (r0 r1 r2 r3 s0 s1 s2 s3 : Value) (V : World) (z1 z2 : Bool)
    (K9 : Bk 24 V g9 #[r0, r1, r2, r3]) (K10 : Bk 24 V g10 #[s0, s1, s2, s3])
    (hq1 : ∀ w, (Op.equalIn 10000 24 (.agg #[r0, r1, r2, r3]) (.agg #[.int .u64 0, .int .u64 0, .int .u64 0, .int .u64 0])).run Tryz.prog w = .ok z1 w)
    (hq2 : ∀ w, (Op.equalIn 10000 24 (.agg #[s0, s1, s2, s3]) (.agg #[.int .u64 0, .int .u64 0, .int .u64 0, .int .u64 0])).run Tryz.prog w = .ok z2 w)
    {t0 t1 t2 t3 t4 t5 t6 t7 t8 t11 t12 t13 t14 t15 t16 t17 t18 t19 t20 t21 t22 t23 t24 t25 t26 t27 t28 t29 t30 t31 t32 : Value} {ds : List Deferred} {K : Act → World → Prop} {Q : Exit → Act → World → Prop}
    (h : ∀ x20 x21 x22 x23 x24 x25 x26, K { tmps := #[t0, t1, t2, t3, t4, t5, t6, t7, t8, .pointer (some ⟨g9, 0, none⟩), .pointer (some ⟨g10, 0, none⟩), t11, t12, t13, t14, t15, t16, t17, t18, t19, x20, x21, x22, x23, x24, x25, x26, .bool (!z1 && !z2), t28, t29, t30, t31, t32], defers := ds } V) :
    (Code.region 4 sg4O false).wpIn (Fence.wide.inRound l) 6 Tryz.prog (Exit.then K Q) { tmps := #[t0, t1, t2, t3, t4, t5, t6, t7, t8, .pointer (some ⟨g9, 0, none⟩), .pointer (some ⟨g10, 0, none⟩), t11, t12, t13, t14, t15, t16, t17, t18, t19, t20, t21, t22, t23, t24, t25, t26, t27, t28, t29, t30, t31, t32], defers := ds } V := by
  obtain ⟨x0, x1, x2, x3⟩ := K9.cells
  obtain ⟨y0, y1, y2, y3⟩ := K10.cells
  simp only [sg4O, fR, Tryz.f50, Option.bind_some, Option.or, Option.getD, Nat.reduceEqDiff, if_true, if_false, reduceIte]
  cases z1 with
  | true =>
    gi_wp2
    exact h _ _ _ _ _ _ _
  | false =>
    gi_wp2
    exact h _ _ _ _ _ _ _
noncomputable def sg5O : Array Oper := (Tryz.f50.body.bind fun c => fR c 5).getD #[]
set_option maxHeartbeats 16000000 in
theorem sg5 (l g9 g10 b6 b7 R B : Nat) (r0 r1 r2 r3 s0 s1 s2 s3 u6 u7 : Value) (RB TB SB : ByteArray) (V : World)
    (K9 : Bk 24 V g9 #[r0, r1, r2, r3]) (K10 : Bk 24 V g10 #[s0, s1, s2, s3]) (K6 : Bk 9 V b6 #[u6]) (K7 : Bk 27 V b7 #[u7])
    (HB1 : ∀ W, Calls Tryz.prog 19 #[.agg #[r0, r1, r2, r3]] W fun x w' => x = .returned (.string RB) ∧ Below W.heap.size W w')
    (HB2 : ∀ W, Calls Tryz.prog 19 #[.agg #[s0, s1, s2, s3]] W fun x w' => x = .returned (.string TB) ∧ Below W.heap.size W w')
    (z1 : RB.size ≤ 32) (z2 : TB.size ≤ 32) (ha : RB ++ TB = SB) (h67 : b6 ≠ b7) (hB6 : B ≤ b6) (hB7 : B ≤ b7) (hBV : B ≤ V.heap.size) (h6R : b6 < R) (h7R : b7 < R)
    {t0 t1 t2 t3 t4 t5 t8 t11 t12 t13 t14 t15 t16 t17 t18 t19 t20 t21 t22 t23 t24 t25 t26 t27 t28 t29 t30 t31 t32 : Value} {ds : List Deferred} {K : Act → World → Prop} {Q : Exit → Act → World → Prop} (hQo : ∀ a w, ¬ Q .outgrown a w)
    (h : ∀ (x28 x29 x30 x31 x32 : Value) (V' : World), Bk 9 V' b6 #[.string SB] → Bk 27 V' b7 #[.int .i64 0] → Up R V V' → Below B V V' → K { tmps := #[t0, t1, t2, t3, t4, t5, .pointer (some ⟨b6, 0, none⟩), .pointer (some ⟨b7, 0, none⟩), t8, .pointer (some ⟨g9, 0, none⟩), .pointer (some ⟨g10, 0, none⟩), t11, t12, t13, t14, t15, t16, t17, t18, t19, t20, t21, t22, t23, t24, t25, t26, t27, x28, x29, x30, x31, x32], defers := ds } V') :
    (Code.region 5 sg5O true).wpIn (Fence.wide.inRound l) 6 Tryz.prog (Exit.then K Q) { tmps := #[t0, t1, t2, t3, t4, t5, .pointer (some ⟨b6, 0, none⟩), .pointer (some ⟨b7, 0, none⟩), t8, .pointer (some ⟨g9, 0, none⟩), .pointer (some ⟨g10, 0, none⟩), t11, t12, t13, t14, t15, t16, t17, t18, t19, t20, t21, t22, t23, t24, t25, t26, t27, t28, t29, t30, t31, t32], defers := ds } V := by
  have HH1 := Lib.hid HB1
  have HH2 := Lib.hid HB2
  have HG := Lib.hid (And.intro h67 (And.intro hB6 (And.intro hB7 (And.intro hBV (And.intro h6R h7R)))))
  have HK := Lib.hid (And.intro K9 (And.intro K10 (And.intro K6 K7)))
  have HQ := Lib.hid h
  clear HB1 HB2 h67 hB6 hB7 hBV h6R h7R h
  obtain ⟨x0, x1, x2, x3⟩ := K9.reg
  obtain ⟨y0, y1, y2, y3⟩ := K10.reg
  clear K9 K10 K6 K7
  simp only [sg5O, fR, Tryz.f50, Option.bind_some, Option.or, Option.getD, Nat.reduceEqDiff, if_true, if_false, reduceIte]
  refine wpIn_region_below_tail 5 mixed (by kernel_rfl) (by kernel_rfl) (fun a w => hQo a w) ?_
  clear hQo
  simp only [List.take_succ_cons, List.take_zero, List.drop_succ_cons, List.drop_zero]
  go_big_quiet_step (fail)
  go_big_quiet_step (exact qg HH1.out)
  go_big_quiet_step (fail)
  go_big_quiet_step (exact qg HH2.out)
  go_big_quiet_step (fail)
  refine wpQuiet_nil ?_
  intro _ hw'
  obtain ⟨⟨dq, osq⟩, hw''⟩ := hw'
  subst hw''
  have HX : Hid (Below V.heap.size V (grow (redrawn V dq) osq)) := Lib.hid (below_regrown V dq osq)
  clear x0 x1 x2 x3 y0 y1 y2 y3
  generalize grow (redrawn V dq) osq = X at HX ⊢
  have c6 : X.cell? ⟨b6, 0, none⟩ = some u6 := (HK.out.2.2.1.below HX.out).cell 0
  have f6 := (HK.out.2.2.1.below HX.out).fro 0
  have c7 : (X.setCell ⟨b6, 0, none⟩ (.string SB)).cell? ⟨b7, 0, none⟩ = some u7 := (Bk.oth (a := ⟨b6, 0, none⟩) (Ne.symm HG.out.1) (HK.out.2.2.2.below HX.out)).cell 0
  have f7 := (Bk.oth (a := ⟨b6, 0, none⟩) (v := .string SB) (Ne.symm HG.out.1) (HK.out.2.2.2.below HX.out)).fro 0
  go_wp2_with fail
  refine HQ.out _ _ _ _ _ _ ?_ ?_ ?_ ?_
  · exact Bk.oth (a := ⟨b7, 0, none⟩) HG.out.1 (Bk.same (HK.out.2.2.1.below HX.out))
  · exact Bk.same (Bk.oth (a := ⟨b6, 0, none⟩) (Ne.symm HG.out.1) (HK.out.2.2.2.below HX.out))
  · exact ((up_of_below HX.out).trans (up_set HG.out.2.2.2.2.1)).trans (up_set HG.out.2.2.2.2.2)
  · exact ((HX.out.mono HG.out.2.2.2.1).setCell (p := ⟨b6, 0, none⟩) HG.out.2.1 _).setCell (p := ⟨b7, 0, none⟩) HG.out.2.2.1 _
end Go.Proofs.YtpggkfdijmnmiaaGreat
namespace Go.Proofs.YtpggkfdijmnmiaaGreat
open Go.RowKit Go.Shelf Limbs
attribute [local go_sem] Oper.semAt_some
def good (d e : Nat) (x : Nz) : Bool := decide (rOf x.1 ≠ 0 ∧ tOf d e x.1 ≠ 0)
def sgO : Nat → Nat → Option Nz → Value
  | d, e, some x => .tuple #[.string ⟨(sgB (rOf x.1) (tOf d e x.1)).toArray⟩, .int .i64 0]
  | _, _, none => .tuple #[.string ⟨#[]⟩, .int .i64 81]
def sgL (d e : Nat) (l : List Nz) : Value := sgO d e (l.find? (good d e))
theorem sgL_none {d e : Nat} {l : List Nz} (h : ∀ y ∈ l, good d e y = false) : sgL d e l = .tuple #[.string ⟨#[]⟩, .int .i64 81] := by
  have : l.find? (good d e) = none := List.find?_eq_none.2 fun y hy => by rw [h y hy]; exact Bool.false_ne_true
  rw [sgL, this, sgO]
theorem sgL_some {d e : Nat} {l q : List Nz} {x : Nz} (hp : q ++ [x] <+: l) (h : ∀ y ∈ q, good d e y = false) (hx : good d e x = true) : sgL d e l = .tuple #[.string ⟨(sgB (rOf x.1) (tOf d e x.1)).toArray⟩, .int .i64 0] := by
  obtain ⟨r, hr⟩ := hp
  have : l.find? (good d e) = some x := by
    rw [← hr, List.append_assoc, List.find?_append, List.find?_eq_none.2 fun y hy => by rw [h y hy]; exact Bool.false_ne_true]
    simp [hx]
  rw [sgL, this, sgO]
def nzs (d e : Nat) : List Nz := nzL d e 16
def sgV (d e : Nat) : Value := sgL d e (nzs d e)
structure Fr (R b3 b4 b6 b7 d e : Nat) (W : World) : Prop where
  k3 : Bk 24 W b3 (cs4 d)
  k4 : Bk 24 W b4 (cs4 e)
  k6 : Bk 9 W b6 #[.string ⟨#[]⟩]
  k7 : Bk 27 W b7 #[.int .i64 0]
theorem Fr.below {R b3 b4 b6 b7 d e : Nat} {A C : World} (h : Fr R b3 b4 b6 b7 d e A) (hl : b3 < R ∧ b4 < R ∧ b6 < R ∧ b7 < R) (hb : Below R A C) : Fr R b3 b4 b6 b7 d e C :=
  ⟨(hb.block _ hl.1).trans h.k3, (hb.block _ hl.2.1).trans h.k4, (hb.block _ hl.2.2.1).trans h.k6, (hb.block _ hl.2.2.2).trans h.k7⟩
set_option maxHeartbeats 16000000 in
theorem signature_any (d e b1 b2 : Nat) (hd : d < mN) (he : e < mN) (w : World) (k1 : Bk 24 w b1 (cs4 d)) (k2 : Bk 24 w b2 (cs4 e)) :
    CallsIn Fence.wide 8 Tryz.prog 50 #[nv d, nv e, .func (.func 99) #[] #[.pointer (some ⟨b1, 0, none⟩), .pointer (some ⟨b2, 0, none⟩)]] w fun x w' => x = .returned (sgV d e) ∧ Below w.heap.size w w' := by
  have HD := Lib.hid (And.intro hd he)
  have HK := Lib.hid (And.intro k1 k2)
  clear hd he k1 k2
  simp only [nv, num]
  refine callsIn_of_wp_marks Tryz.func50 rfl trivial ?_ rfl
  simp only [Tryz.ntmps50, List.size_toArray, List.length_cons, List.length_nil, Nat.reduceAdd, Nat.reduceSub, Array.replicate_succ, Array.replicate_zero, List.push_toArray, List.append_toArray, List.nil_append, List.cons_append]
  obtain ⟨W0, hW0⟩ : ∃ W0, (((w.alloc (.cells #[.int .u64 (lb d 0 : Nat), .int .u64 (lb d 1 : Nat), .int .u64 (lb d 2 : Nat), .int .u64 (lb d 3 : Nat)] 24)).alloc (.cells #[.int .u64 (lb e 0 : Nat), .int .u64 (lb e 1 : Nat), .int .u64 (lb e 2 : Nat), .int .u64 (lb e 3 : Nat)] 24)).alloc (.cells #[.string ⟨#[]⟩] 9)).alloc (.cells #[.int .i64 0] 27) = W0 := ⟨_, rfl⟩
  have HF0 : Hid (Fr W0.heap.size w.heap.size (w.heap.size + 1) (w.heap.size + 1 + 1) (w.heap.size + 1 + 1 + 1) d e W0) := Lib.hid (by
    rw [← hW0]
    exact ⟨Bk.alloc (Bk.alloc (Bk.alloc (Bk.new rfl))), Bk.alloc (Bk.alloc (Bk.new (by simp))), Bk.alloc (Bk.new (by simp)), Bk.new (by simp)⟩)
  have hz0 : W0.heap.size = w.heap.size + 1 + 1 + 1 + 1 := by rw [← hW0]; simp
  have HB0 : Hid (Below w.heap.size w W0) := Lib.hid (by rw [← hW0]; go_grown)
  have HW0 := Lib.hid hW0
  clear hW0
  gi_wp2
  rw [HW0.out]
  have HSZ := Lib.hid hz0
  have HLT : Hid (w.heap.size < W0.heap.size ∧ w.heap.size + 1 < W0.heap.size ∧ w.heap.size + 1 + 1 < W0.heap.size ∧ w.heap.size + 1 + 1 + 1 < W0.heap.size) := Lib.hid (by omega)
  clear hz0
  have HLE : Hid (w.heap.size ≤ W0.heap.size) := Lib.hid (by have := HSZ.out; omega)
  refine range_yields rfl (by decide) (gf := 99) (lb := #[.pointer (some ⟨b1, 0, none⟩), .pointer (some ⟨b2, 0, none⟩)]) rfl trivial (enters_of Tryz.func99 (by kernel_rfl) rfl)
    (nonces_yield 7 (by decide) b1 b2 d e W0 (Bk.below HK.out.1 HB0.out) (Bk.below HK.out.2 HB0.out)) (fun _ => rfl)
    (fun pre W => (∀ y ∈ pre, good d e y = false) ∧ Fr W0.heap.size w.heap.size (w.heap.size + 1) (w.heap.size + 1 + 1) (w.heap.size + 1 + 1 + 1) d e W ∧ Below w.heap.size w W)
    (fun pre W => (∃ (q : List Nz) (x : Nz), pre = q ++ [x] ∧ (∀ y ∈ q, good d e y = false) ∧ good d e x = true ∧ Bk 9 W (w.heap.size + 1 + 1) #[.string ⟨(sgB (rOf x.1) (tOf d e x.1)).toArray⟩] ∧ Bk 27 W (w.heap.size + 1 + 1 + 1) #[.int .i64 0]) ∧ Below w.heap.size w W)
    ?hI ?hIx ?h0 ?round ?done ?stop
  case hI => exact fun s A C h hb => ⟨h.1, h.2.1.below HLT.out hb, h.2.2.trans (hb.mono HLE.out)⟩
  case hIx =>
    rintro s A C ⟨⟨q, x, h1, h2, h3, h4, h5⟩, h6⟩ hb
    exact ⟨⟨q, x, h1, h2, h3, (hb.block _ HLT.out.2.2.1).trans h4, (hb.block _ HLT.out.2.2.2).trans h5⟩, h6.trans (hb.mono HLE.out)⟩
  case h0 => exact ⟨by simp, HF0.out, HB0.out⟩
  case round =>
    rintro l pre ⟨k, hk0, hk1⟩ W ⟨hp, hF, hB⟩ hpre hsz
    have HP := Lib.hid hp
    have HF := Lib.hid hF
    have HB := Lib.hid hB
    have HS := Lib.hid hsz
    have HPR := Lib.hid hpre
    have HN := Lib.hid (fun W => (CallsIn.inRound l (callsIn_wide.2 (numbers_any d e k HD.out.1 HD.out.2 hk0 hk1 W) : CallsIn Fence.wide 5 Tryz.prog 98 _ W _)))
    have hr := rOf_lt k
    have ht := tOf_lt d e k
    have HGD : Hid (good d e ⟨k, hk0, hk1⟩ = (!decide (rOf k = 0) && !decide (tOf d e k = 0))) := Lib.hid (by
      rw [good]
      by_cases h1 : rOf k = 0 <;> by_cases h2 : tOf d e k = 0 <;> simp [h1, h2])
    have HZ1 : Hid (∀ w, (Op.equalIn 10000 24 (.agg #[.int .u64 (lb (rOf k) 0 : Nat), .int .u64 (lb (rOf k) 1 : Nat), .int .u64 (lb (rOf k) 2 : Nat), .int .u64 (lb (rOf k) 3 : Nat)]) (.agg #[.int .u64 0, .int .u64 0, .int .u64 0, .int .u64 0])).run Tryz.prog w = .ok (decide (rOf k = 0)) w) := Lib.hid (fun w => eqN (rOf k) 0 (Nat.lt_trans hr mN_W) (by decide) w)
    have HZ2 : Hid (∀ w, (Op.equalIn 10000 24 (.agg #[.int .u64 (lb (tOf d e k) 0 : Nat), .int .u64 (lb (tOf d e k) 1 : Nat), .int .u64 (lb (tOf d e k) 2 : Nat), .int .u64 (lb (tOf d e k) 3 : Nat)]) (.agg #[.int .u64 0, .int .u64 0, .int .u64 0, .int .u64 0])).run Tryz.prog w = .ok (decide (tOf d e k = 0)) w) := Lib.hid (fun w => eqN (tOf d e k) 0 (Nat.lt_trans ht mN_W) (by decide) w)
    have HB1 := Lib.hid (fun W => bytes_any (rOf k) W)
    have HB2 := Lib.hid (fun W => bytes_any (tOf d e k) W)
    have HSG : Hid ((⟨(nb (rOf k)).toArray⟩ : ByteArray) ++ ⟨(nb (tOf d e k)).toArray⟩ = ⟨(sgB (rOf k) (tOf d e k)).toArray⟩) := Lib.hid (ByteArray.mk_append_mk _ _)
    have hz1 : (⟨(nb (rOf k)).toArray⟩ : ByteArray).size ≤ 32 := by rw [app_size _ [], nb_length]; exact Nat.le_refl _
    have hz2 : (⟨(nb (tOf d e k)).toArray⟩ : ByteArray).size ≤ 32 := by rw [app_size _ [], nb_length]; exact Nat.le_refl _
    clear hp hF hB hsz hpre HF0 HB0 HW0 hr ht
    generalize hsb : (⟨(sgB (rOf k) (tOf d e k)).toArray⟩ : ByteArray) = SB at HSG
    have HSB := Lib.hid hsb
    clear hsb
    generalize (⟨(nb (rOf k)).toArray⟩ : ByteArray) = RB at *
    generalize (⟨(nb (tOf d e k)).toArray⟩ : ByteArray) = TB at *
    simp only [nv, num] at HN HB1 HB2 ⊢
    generalize decide (rOf k = 0) = z1 at *
    generalize decide (tOf d e k = 0) = z2 at *
    generalize hrv : rOf k = r at *
    generalize htv : tOf d e k = t at *
    have HRV := Lib.hid (And.intro hrv htv)
    clear hrv htv
    gi_wp2
    refine ⟨by go_grown, fun W2 hn => ?_⟩
    have KK : Hid (Bk 24 W2 W.heap.size (cs4 k)) := Lib.hid ((hn.above _ HS.out).trans (Bk.new rfl))
    have hb2 : Below W0.heap.size W W2 := ((Below.refl _ W).alloc (by have := HS.out; omega) _).trans hn.below
    have HF2 := Lib.hid (HF.out.below HLT.out hb2)
    have HBW := Lib.hid (HB.out.trans (hb2.mono HLE.out))
    have HS2 : Hid (W0.heap.size ≤ W2.heap.size) := Lib.hid (by have := HS.out; have := hb2.size; omega)
    clear hb2 hn HF HB
    obtain ⟨x0, x1, x2, x3⟩ := KK.out.cells
    obtain ⟨y0, y1, y2, y3⟩ := HF2.out.k3.cells
    obtain ⟨v0, v1, v2, v3⟩ := HF2.out.k4.cells
    gi_wp2
    refine ⟨trivial, ?_⟩
    refine (HN.out W2).mono ?_
    rintro x w3 ⟨rfl, hb3⟩
    have HF3 := Lib.hid (HF2.out.below HLT.out (hb3.mono HS2.out))
    have HU3 : Hid (Up W0.heap.size W2 w3) := Lib.hid (up_of_below hb3)
    have HB3 := Lib.hid (HBW.out.trans (hb3.mono (Nat.le_trans HLE.out HS2.out)))
    have HS3 := Lib.hid (Nat.le_trans HS2.out hb3.size)
    clear hb3 HF2 HBW HS2 x0 x1 x2 x3 y0 y1 y2 y3 v0 v1 v2 v3 KK HN
    gi_upto_region 4 with fail
    have K9 : Hid (Bk 24 ((w3.alloc (.cells #[.int .u64 (lb r 0 : Nat), .int .u64 (lb r 1 : Nat), .int .u64 (lb r 2 : Nat), .int .u64 (lb r 3 : Nat)] 24)).alloc (.cells #[.int .u64 (lb t 0 : Nat), .int .u64 (lb t 1 : Nat), .int .u64 (lb t 2 : Nat), .int .u64 (lb t 3 : Nat)] 24)) w3.heap.size #[.int .u64 (lb r 0 : Nat), .int .u64 (lb r 1 : Nat), .int .u64 (lb r 2 : Nat), .int .u64 (lb r 3 : Nat)]) := Lib.hid (Bk.alloc (Bk.new rfl))
    have K10 : Hid (Bk 24 ((w3.alloc (.cells #[.int .u64 (lb r 0 : Nat), .int .u64 (lb r 1 : Nat), .int .u64 (lb r 2 : Nat), .int .u64 (lb r 3 : Nat)] 24)).alloc (.cells #[.int .u64 (lb t 0 : Nat), .int .u64 (lb t 1 : Nat), .int .u64 (lb t 2 : Nat), .int .u64 (lb t 3 : Nat)] 24)) (w3.heap.size + 1) #[.int .u64 (lb t 0 : Nat), .int .u64 (lb t 1 : Nat), .int .u64 (lb t 2 : Nat), .int .u64 (lb t 3 : Nat)]) := Lib.hid (Bk.new (by simp))
    have hb4 : Below w3.heap.size w3 ((w3.alloc (.cells #[.int .u64 (lb r 0 : Nat), .int .u64 (lb r 1 : Nat), .int .u64 (lb r 2 : Nat), .int .u64 (lb r 3 : Nat)] 24)).alloc (.cells #[.int .u64 (lb t 0 : Nat), .int .u64 (lb t 1 : Nat), .int .u64 (lb t 2 : Nat), .int .u64 (lb t 3 : Nat)] 24)) := by go_grown
    have HF4 := Lib.hid (HF3.out.below HLT.out (hb4.mono HS3.out))
    have HB4 := Lib.hid (HB3.out.trans (hb4.mono (Nat.le_trans HLE.out HS3.out)))
    have HU4 : Hid (Up W0.heap.size W2 ((w3.alloc (.cells #[.int .u64 (lb r 0 : Nat), .int .u64 (lb r 1 : Nat), .int .u64 (lb r 2 : Nat), .int .u64 (lb r 3 : Nat)] 24)).alloc (.cells #[.int .u64 (lb t 0 : Nat), .int .u64 (lb t 1 : Nat), .int .u64 (lb t 2 : Nat), .int .u64 (lb t 3 : Nat)] 24))) := Lib.hid (HU3.out.trans (up_of_below hb4))
    clear hb4 HF3 HB3 HU3
    generalize ((w3.alloc (.cells #[.int .u64 (lb r 0 : Nat), .int .u64 (lb r 1 : Nat), .int .u64 (lb r 2 : Nat), .int .u64 (lb r 3 : Nat)] 24)).alloc (.cells #[.int .u64 (lb t 0 : Nat), .int .u64 (lb t 1 : Nat), .int .u64 (lb t 2 : Nat), .int .u64 (lb t 3 : Nat)] 24)) = V at *
    generalize w3.heap.size + 1 = g10 at K10 ⊢
    generalize w3.heap.size = g9 at K9 ⊢
    generalize Value.tuple #[.agg #[.int .u64 (lb r 0 : Nat), .int .u64 (lb r 1 : Nat), .int .u64 (lb r 2 : Nat), .int .u64 (lb r 3 : Nat)], .agg #[.int .u64 (lb t 0 : Nat), .int .u64 (lb t 1 : Nat), .int .u64 (lb t 2 : Nat), .int .u64 (lb t 3 : Nat)]] = vt
    generalize Value.agg #[.int .u64 (lb d 0 : Nat), .int .u64 (lb d 1 : Nat), .int .u64 (lb d 2 : Nat), .int .u64 (lb d 3 : Nat)] = vd
    generalize Value.agg #[.int .u64 (lb e 0 : Nat), .int .u64 (lb e 1 : Nat), .int .u64 (lb e 2 : Nat), .int .u64 (lb e 3 : Nat)] = ve
    generalize Value.agg #[.int .u64 (lb k 0 : Nat), .int .u64 (lb k 1 : Nat), .int .u64 (lb k 2 : Nat), .int .u64 (lb k 3 : Nat)] = vk
    generalize W.heap.size = g8
    have HGN : Hid ((!z1 && !z2) = false → ∀ y ∈ pre ++ [(⟨k, hk0, hk1⟩ : Nz)], good d e y = false) := Lib.hid (by
      intro hz y hy
      rcases List.mem_append.1 hy with h1 | h1
      · exact HP.out y h1
      · rw [List.mem_singleton.1 h1, HGD.out]
        exact hz)
    refine sg4 l g9 g10 _ _ _ _ _ _ _ _ V z1 z2 K9.out K10.out HZ1.out HZ2.out (fun x20 x21 x22 x23 x24 x25 x26 => ?_)
    clear HZ1 HZ2
    generalize hzz : (!z1 && !z2) = zz at *
    cases zz with
    | false =>
      gi_wp2
      exact ⟨HU4.out, fun a b => HGN.out (by trivial) ⟨a, b⟩, HF4.out, HB4.out⟩
    | true =>
      clear HGN
      gi_upto_region 5 with fail
      have HVS : Hid (w.heap.size ≤ V.heap.size) := Lib.hid HB4.out.size
      refine sg5 l g9 g10 (w.heap.size + 1 + 1) (w.heap.size + 1 + 1 + 1) W0.heap.size w.heap.size _ _ _ _ _ _ _ _ _ _ RB TB SB V K9.out K10.out HF4.out.k6 HF4.out.k7 HB1.out HB2.out hz1 hz2 HSG.out (by omega) (by omega) (by omega) HVS.out HLT.out.2.2.1 HLT.out.2.2.2 (fun a w h => h) (fun x28 x29 x30 x31 x32 V' j1 j2 j3 j4 => ?_)
      have HJ1 := Lib.hid (And.intro j1 j2)
      have HJ3 := Lib.hid (HU4.out.trans j3)
      have HJ4 := Lib.hid (HB4.out.trans j4)
      clear j1 j2 j3 j4
      gi_wp2
      exact ⟨HJ3.out, ⟨pre, ⟨k, hk0, hk1⟩, rfl, HP.out, HGD.out.trans rfl, by rw [show (⟨(sgB (rOf k) (tOf d e k)).toArray⟩ : ByteArray) = SB from by rw [HRV.out.1, HRV.out.2]; exact HSB.out]; exact HJ1.out.1, HJ1.out.2⟩, HJ4.out⟩
  case done =>
    rintro D W hD ⟨hp, hF, hB⟩ hK
    have HP := Lib.hid (sgL_none hp)
    have HF := Lib.hid hF
    have HB := Lib.hid hB
    have HDD := Lib.hid (And.intro hD hK)
    clear hp hF hB hD hK HF0 HB0 HW0
    have c6 : W.cell? ⟨w.heap.size + 1 + 1, 0, none⟩ = some (.string ⟨#[]⟩) := HF.out.k6.cell 0
    have f6 := HF.out.k6.fro 0
    have K6 : Hid (Bk 9 (W.setCell ⟨w.heap.size + 1 + 1, 0, none⟩ (.string ⟨#[]⟩)) (w.heap.size + 1 + 1) #[.string ⟨#[]⟩]) := Lib.hid (Bk.same HF.out.k6)
    have K7 : Hid (Bk 27 (W.setCell ⟨w.heap.size + 1 + 1, 0, none⟩ (.string ⟨#[]⟩)) (w.heap.size + 1 + 1 + 1) #[.int .i64 0]) := Lib.hid (Bk.oth (a := ⟨w.heap.size + 1 + 1, 0, none⟩) (by simp) HF.out.k7)
    have c7 : (W.setCell ⟨w.heap.size + 1 + 1, 0, none⟩ (.string ⟨#[]⟩)).cell? ⟨w.heap.size + 1 + 1 + 1, 0, none⟩ = some (.int .i64 0) := K7.out.cell 0
    have f7 := K7.out.fro 0
    have K6' : Hid (Bk 9 ((W.setCell ⟨w.heap.size + 1 + 1, 0, none⟩ (.string ⟨#[]⟩)).setCell ⟨w.heap.size + 1 + 1 + 1, 0, none⟩ (.int .i64 81)) (w.heap.size + 1 + 1) #[.string ⟨#[]⟩]) := Lib.hid (Bk.oth (a := ⟨w.heap.size + 1 + 1 + 1, 0, none⟩) (by simp) K6.out)
    have K7' : Hid (Bk 27 ((W.setCell ⟨w.heap.size + 1 + 1, 0, none⟩ (.string ⟨#[]⟩)).setCell ⟨w.heap.size + 1 + 1 + 1, 0, none⟩ (.int .i64 81)) (w.heap.size + 1 + 1 + 1) #[.int .i64 81]) := Lib.hid (Bk.same K7.out)
    have HB' : Hid (Below w.heap.size w ((W.setCell ⟨w.heap.size + 1 + 1, 0, none⟩ (.string ⟨#[]⟩)).setCell ⟨w.heap.size + 1 + 1 + 1, 0, none⟩ (.int .i64 81))) := Lib.hid ((HB.out.setCell (p := ⟨w.heap.size + 1 + 1, 0, none⟩) (by simp; omega) _).setCell (p := ⟨w.heap.size + 1 + 1 + 1, 0, none⟩) (by simp; omega) _)
    have HD' : Hid (((W.setCell ⟨w.heap.size + 1 + 1, 0, none⟩ (.string ⟨#[]⟩)).setCell ⟨w.heap.size + 1 + 1 + 1, 0, none⟩ (.int .i64 81)).heap[D]? = some (.deferred (some []))) := Lib.hid ((Below.heap_setCell _ ⟨w.heap.size + 1 + 1 + 1, 0, none⟩ _ D (by have := HDD.out.1; have := HSZ.out; simp; omega)).trans ((Below.heap_setCell _ ⟨w.heap.size + 1 + 1, 0, none⟩ _ D (by have := HDD.out.1; have := HSZ.out; simp; omega)).trans HDD.out.2))
    have hDne : w.heap.size + 1 + 1 ≠ D ∧ w.heap.size + 1 + 1 + 1 ≠ D ∧ w.heap.size ≤ D := by
      have := HDD.out.1
      have := HSZ.out
      omega
    have HNE := Lib.hid hDne
    clear hDne
    gi_wp2
    clear c6 f6 c7 f7 K6 K7 HB HF
    generalize ((W.setCell ⟨w.heap.size + 1 + 1, 0, none⟩ (.string ⟨#[]⟩)).setCell ⟨w.heap.size + 1 + 1 + 1, 0, none⟩ (.int .i64 81)) = X at K6' K7' HB' HD' ⊢
    refine ⟨by simp, .inl ⟨_, _, rfl, run_takeDeferred HD'.out, ?_⟩⟩
    have q6 : (X.putObj D (.deferred none)).cell? ⟨w.heap.size + 1 + 1, 0, none⟩ = some (.string ⟨#[]⟩) := (show Bk 9 (X.putObj D (.deferred none)) (w.heap.size + 1 + 1) #[.string ⟨#[]⟩] from (World.putObj_heap_other HNE.out.1).trans K6'.out).cell 0
    have q7 : (X.putObj D (.deferred none)).cell? ⟨w.heap.size + 1 + 1 + 1, 0, none⟩ = some (.int .i64 81) := (show Bk 27 (X.putObj D (.deferred none)) (w.heap.size + 1 + 1 + 1) #[.int .i64 81] from (World.putObj_heap_other HNE.out.2.1).trans K7'.out).cell 0
    refine ⟨.tuple #[.string ⟨#[]⟩, .int .i64 81], ?_, by rw [sgV, nzs, HP.out], put_below HB'.out HNE.out.2.2⟩
    simp [results, Tryz.f50, go_sem, q6, q7]
  case stop =>
    rintro D pre W hD hpre ⟨⟨q, x, rfl, h2, h3, h4, h5⟩, hB⟩ hK
    have HS := Lib.hid (sgL_some hpre h2 h3)
    have K6' := Lib.hid h4
    have K7' := Lib.hid h5
    have HB' := Lib.hid hB
    have HD' := Lib.hid hK
    have HNE : Hid (w.heap.size + 1 + 1 ≠ D ∧ w.heap.size + 1 + 1 + 1 ≠ D ∧ w.heap.size ≤ D) := Lib.hid (by
      have := HSZ.out
      omega)
    clear h2 h3 h4 h5 hB hK hD hpre HF0 HB0 HW0
    generalize (⟨(sgB (rOf x.1) (tOf d e x.1)).toArray⟩ : ByteArray) = SB at *
    gi_wp2
    refine ⟨by simp, .inl ⟨_, _, rfl, run_takeDeferred HD'.out, ?_⟩⟩
    have q6 : (W.putObj D (.deferred none)).cell? ⟨w.heap.size + 1 + 1, 0, none⟩ = some (.string SB) := (show Bk 9 (W.putObj D (.deferred none)) (w.heap.size + 1 + 1) #[.string SB] from (World.putObj_heap_other HNE.out.1).trans K6'.out).cell 0
    have q7 : (W.putObj D (.deferred none)).cell? ⟨w.heap.size + 1 + 1 + 1, 0, none⟩ = some (.int .i64 0) := (show Bk 27 (W.putObj D (.deferred none)) (w.heap.size + 1 + 1 + 1) #[.int .i64 0] from (World.putObj_heap_other HNE.out.2.1).trans K7'.out).cell 0
    refine ⟨.tuple #[.string SB, .int .i64 0], ?_, by rw [sgV, nzs, HS.out], put_below HB'.out HNE.out.2.2⟩
    simp [results, Tryz.f50, go_sem, q6, q7]
end Go.Proofs.YtpggkfdijmnmiaaGreat
