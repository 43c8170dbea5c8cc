/- Stretched bytes. Conditions: a passphrase and a salt of at most 2^47 bytes each. -/
import Derived.Test.YteaanoaldnnflaaP
set_option linter.unusedVariables false
set_option linter.unusedSimpArgs false
namespace Go.Proofs.Yteaanoaldnnflaa
open Go.RowKit Go.Sort

theorem strL_length (k s : List UInt8) (r : Nat) : (strL k s r).length = 32 := str_length k r s _ (by simp)
theorem blocks_succ (k salt : List UInt8) (r m : Nat) : blocksL k salt r (m + 1) = blocksL k salt r m ++ strL k (salt ++ fourL (UInt32.ofNat (m + 1))) r := by
  simp [blocksL, List.range_succ]
theorem blocks_length (k salt : List UInt8) (r : Nat) : ∀ m, (blocksL k salt r m).length = 32 * m
  | 0 => rfl
  | m + 1 => by rw [blocks_succ, List.length_append, blocks_length k salt r m, strL_length]; omega
theorem blocks_take (k salt : List UInt8) (r n m : Nat) (h : n ≤ 32 * m) : ∀ d, (blocksL k salt r (m + d)).take n = (blocksL k salt r m).take n
  | 0 => rfl
  | d + 1 => by
    rw [← Nat.add_assoc, blocks_succ, List.take_append_of_le_length (by rw [blocks_length]; omega), blocks_take k salt r n m h d]

/-- the key's block, the builder, what it holds -/
structure Bx (w wr : World) (g h : Nat) (k l : List UInt8) : Prop where
  key : wr.heap[g]? = some (.cells (bs k) 46 (0, 0))
  bd : Bd h l wr
  below : Below w.heap.size w wr
  le : w.heap.size ≤ g
  lt : g < h
theorem Bx.on {w wr w' : World} {g h : Nat} {k l : List UInt8} (x : Bx w wr g h k l) (b : Below wr.heap.size wr w') : Bx w w' g h k l :=
  ⟨(b.block _ (Array.getElem?_eq_some_iff.1 x.key).1).trans x.key, x.bd.below b, x.below.trans (b.mono (by have := (Array.getElem?_eq_some_iff.1 x.key).1; have := x.le; omega)), x.le, x.lt⟩
theorem Bx.wrote {w wr w' : World} {g h : Nat} {k l l' : List UInt8} (x : Bx w wr g h k l) (hb : Bd h l' w') (b : Below h wr w') : Bx w w' g h k l' :=
  ⟨(b.block _ x.lt).trans x.key, hb, x.below.trans (b.mono (by have := x.le; have := x.lt; omega)), x.le, x.lt⟩

set_option maxHeartbeats 4000000 in
set_option maxRecDepth 100000 in
theorem stretch_yes (pass salt : List UInt8) (hp : pass.length ≤ 140737488355328) (hs : salt.length ≤ 140737488355328) (r n : Nat) (hr : 1 ≤ r) (hr2 : r ≤ 64) (hn : 1 ≤ n) (hn2 : n ≤ 96) (w : World) :
    Calls Try.prog 14 #[.string ⟨pass.toArray⟩, .string ⟨salt.toArray⟩, .int .i64 r, .int .i64 n] w fun e w' => e = .returned (.tuple #[.string ⟨((blocksL (fillL pass) salt r 3).take n).toArray⟩, .int .i64 0]) ∧ Below w.heap.size w w' := by
  have q1 : ¬ ((r : Int) < 1) := by omega
  have q2 : ¬ (64 < (r : Int)) := by omega
  have q3 : ¬ ((n : Int) < 1) := by omega
  have q4 : ¬ (96 < (n : Int)) := by omega
  have HF := Lib.hid (fill_any pass (by omega))
  have HKL := Lib.hid (fill_length pass)
  have hsl : (salt.length : Int) ≤ 140737488355328 := by omega
  have HP : Hid (1 ≤ r ∧ r ≤ 64 ∧ 1 ≤ n ∧ n ≤ 96 ∧ salt.length ≤ 140737488355328) := Lib.hid ⟨hr, hr2, hn, hn2, hs⟩
  generalize fillL pass = k at HF HKL ⊢
  have HI := Lib.hid (i46 k HKL.out)
  have hssz := size_ba salt
  clear hp hs hr hr2 hn hn2
  go_enter Try.func14, Try.ntmps14
  go_wp2_with fail
  refine (HF.out _).mono ?_
  rintro e w1 ⟨rfl, b1⟩
  have HB1 := Lib.hid b1
  clear b1 HF
  go_upto_region 6 with (refine wpList_store_row rfl 46 (.tmp 10) (.tmp 26) rfl w1.heap.size (bs k) rfl rfl 46 _ (Go.heap_alloc_new w1 _) HI.out (by rw [bs_size, HKL.out]; rfl) (bs_one _) ?_)
  generalize hw2 : World.setRow (World.alloc w1 _) _ _ = w2
  have HK2 : Hid (w2.heap[w1.heap.size]? = some (.cells (bs k) 46 (0, 0))) := Lib.hid (by rw [← hw2]; exact setRow_put (Go.heap_alloc_new w1 _))
  have HS2 : Hid (w2.heap.size = w1.heap.size + 1) := Lib.hid (by rw [← hw2, setRow_size]; simp)
  have HB2 : Hid (Below w.heap.size w w2) := Lib.hid (by rw [← hw2]; exact setRow_below (HB1.out.alloc HB1.out.size _) HB1.out.size)
  clear hw2
  have HX0 : Hid (Bx w (w2.alloc (.cells #[.pointer none, .slice none 0 0] 51)) w1.heap.size w2.heap.size k (blocksL k salt r 0)) := Lib.hid
    ⟨(Lib.alloc_old _ _ _ (by have := HS2.out; omega)).trans HK2.out, Bd.start w2, HB2.out.alloc (by have := HS2.out; have := HB1.out.size; omega) _, HB1.out.size, by have := HS2.out; omega⟩
  clear HK2 HB2
  go_wp2_with fail
  go_loopw [12] (fun i wr => ∃ m : Nat, m ≤ 3 ∧ i = .int .u32 ((m : Int) + 1) ∧ Bx w wr w1.heap.size w2.heap.size k (blocksL k salt r m)) (fun i _ => 4 - (intOf i).toNat)
  case atStart => exact ⟨0, by omega, rfl, HX0.out⟩
  case round =>
    obtain ⟨m, hm, rfl, hx⟩ := hrel
    have HX := Lib.hid hx
    have HLN := Lib.hid (blocks_length k salt r m)
    clear hx HX0
    have HLB := Lib.hid (len_b w2.heap.size (blocksL k salt r m) wr HX.out.bd)
    rw [HLN.out] at HLB
    by_cases hlt : 32 * m < n
    · have hm2 : m < 3 := by have := HP.out; omega
      have hc1 : decide (32 * (m : Int) < (n : Int)) = true := by simp; omega
      have hc2 : (((32 * m : Nat) : Int) < (n : Int)) := by omega
      have e1 : (m : Int) + 1 = ((UInt32.ofNat (m + 1)).toNat : Int) := by rw [w_ofNat _ (by omega)]; omega
      have HFo := Lib.hid (rg (w := wr) (four_any (UInt32.ofNat (m + 1))))
      have HSt := Lib.hid (rg (w := wr) (stretched_any k HKL.out (salt ++ fourL (UInt32.ofNat (m + 1))) (by rw [List.length_append, fourL_length]; have := HP.out; omega) r HP.out.2.1))
      have HN := Lib.hid (blocks_succ k salt r m)
      have HSL := Lib.hid (strL_length k (salt ++ fourL (UInt32.ofNat (m + 1))) r)
      have a1 := app_ba salt (fourL (UInt32.ofNat (m + 1)))
      have l1 : (fourL (UInt32.ofNat (m + 1))).length ≤ 4 := Nat.le_refl _
      rw [← e1] at HFo
      generalize strL k (salt ++ fourL (UInt32.ofNat (m + 1))) r = x at HSt HN HSL
      generalize salt ++ fourL (UInt32.ofNat (m + 1)) = s2 at HSt a1
      generalize fourL (UInt32.ofNat (m + 1)) = f4 at HFo a1 l1
      clear e1
      go_wp2_with fail
      refine HLB.out.mono ?_
      rintro e w5 ⟨rfl, rfl⟩
      go_wp2_with fail
      refine wp_region_below_tail 7 mixed (by kernel_rfl) ?_
      simp only [List.take_succ_cons, List.take_zero, List.drop_succ_cons, List.drop_zero]
      refine wpQuiet_load_row rfl 46 (.tmp 10) rfl w1.heap.size rfl 46 (bs k) (0, 0) _ (fun w' hw' => heap_regrown HX.out.key hw') u46 rfl HI.out ?_
      quiet_step (fail)
      iterate 1 go_big_quiet_step (exact HFo.out _ _)
      go_big_quiet_step (exact HFo.out _ _)
      iterate 2 go_big_quiet_step (exact HSt.out _ _)
      go_big_quiet_step (exact HSt.out _ _)
      refine wpQuiet_nil ?_
      intro _ hw'
      obtain ⟨⟨dq, osq⟩, hw''⟩ := hw'
      subst hw''
      have HX1 := Lib.hid (HX.out.on (below_regrown wr dq osq))
      clear HX HLB HFo HSt a1 l1
      generalize grow (redrawn wr dq) osq = wq at HX1 ⊢
      have HW1 := Lib.hid (write_s w2.heap.size (blocksL k salt r m) ⟨x.toArray⟩ wq HX1.out.bd (by rw [HLN.out, size_ba, HSL.out]; omega))
      go_wp2_with fail
      refine HW1.out.mono ?_
      rintro e w6 ⟨rfl, hbd, hb6, _⟩
      have HX2 : Hid (Bx w w6 w1.heap.size w2.heap.size k (blocksL k salt r (m + 1))) := Lib.hid (by rw [HN.out]; exact HX1.out.wrote hbd hb6)
      clear HX1 HW1 hbd hb6
      go_wp2_with fail
      go_roundw
      case rel => exact ⟨m + 1, by omega, by go_num, HX2.out⟩
      case measure => simp [intOf]; omega
    · have hc1 : decide (32 * (m : Int) < (n : Int)) = false := by simp; omega
      have hc2 : ¬ (((32 * m : Nat) : Int) < (n : Int)) := by omega
      have HT : Hid ((blocksL k salt r m).take n = (blocksL k salt r 3).take n) := Lib.hid (by
        have := blocks_take k salt r n m (by omega) (3 - m)
        rw [show m + (3 - m) = 3 from by omega] at this
        exact this.symm)
      have HS := Lib.hid (string_b w2.heap.size (blocksL k salt r m) wr HX.out.bd)
      have hnl : n ≤ (blocksL k salt r m).length := by rw [HLN.out]; omega
      have HXB := Lib.hid HX.out.below
      have HXL : Hid (w.heap.size ≤ w2.heap.size) := Lib.hid (by have := HX.out.le; have := HX.out.lt; omega)
      have hex : (⟨(blocksL k salt r m).toArray⟩ : ByteArray).extract 0 n = ⟨((blocksL k salt r m).take n).toArray⟩ := by simpa using ext_ba (blocksL k salt r m) 0 n
      rw [HT.out] at hex
      have hbs := size_ba (blocksL k salt r m)
      generalize hres : (blocksL k salt r 3).take n = res at hex HT
      have HRES := Lib.hid hres
      clear HX HT HLN hres
      generalize blocksL k salt r m = B at HS hnl hex hbs HLB
      go_wp2_with fail
      refine HLB.out.mono ?_
      rintro e w5 ⟨rfl, rfl⟩
      go_wp2_with fail
      refine HS.out.mono ?_
      rintro e w5 ⟨rfl, b5⟩
      have HB5 := Lib.hid (HXB.out.trans (b5.mono HXL.out))
      clear b5 HXB HS HLB
      go_wp2_with fail
      go_ret2
      exact ⟨by rw [HRES.out]; rfl, HB5.out⟩
set_option maxHeartbeats 1000000 in
theorem stretch_no1 (p s : ByteArray) (r n : Int) (h : r < 1) (w : World) :
    Calls Try.prog 14 #[.string p, .string s, .int .i64 r, .int .i64 n] w fun e w' => e = .returned (.tuple #[.string ⟨#[]⟩, .int .i64 40]) ∧ w = w' := by
  go_enter Try.func14, Try.ntmps14
  go_wp2_with fail
  go_ret2
  exact ⟨rfl, rfl⟩
set_option maxHeartbeats 1000000 in
theorem stretch_no2 (p s : ByteArray) (r n : Int) (h : 64 < r) (w : World) :
    Calls Try.prog 14 #[.string p, .string s, .int .i64 r, .int .i64 n] w fun e w' => e = .returned (.tuple #[.string ⟨#[]⟩, .int .i64 40]) ∧ w = w' := by
  have h1 : ¬ r < 1 := by omega
  go_enter Try.func14, Try.ntmps14
  go_wp2_with fail
  go_ret2
  exact ⟨rfl, rfl⟩
set_option maxHeartbeats 1000000 in
theorem stretch_no3 (p s : ByteArray) (r n : Int) (h1 : ¬ r < 1) (h2 : ¬ 64 < r) (h : n < 1) (w : World) :
    Calls Try.prog 14 #[.string p, .string s, .int .i64 r, .int .i64 n] w fun e w' => e = .returned (.tuple #[.string ⟨#[]⟩, .int .i64 41]) ∧ w = w' := by
  go_enter Try.func14, Try.ntmps14
  go_wp2_with fail
  go_ret2
  exact ⟨rfl, rfl⟩
set_option maxHeartbeats 1000000 in
theorem stretch_no4 (p s : ByteArray) (r n : Int) (h1 : ¬ r < 1) (h2 : ¬ 64 < r) (h : 96 < n) (w : World) :
    Calls Try.prog 14 #[.string p, .string s, .int .i64 r, .int .i64 n] w fun e w' => e = .returned (.tuple #[.string ⟨#[]⟩, .int .i64 41]) ∧ w = w' := by
  have h3 : ¬ n < 1 := by omega
  go_enter Try.func14, Try.ntmps14
  go_wp2_with fail
  go_ret2
  exact ⟨rfl, rfl⟩
theorem stretch_any (pass salt : List UInt8) (hp : pass.length ≤ 140737488355328) (hs : salt.length ≤ 140737488355328) (r n : Int) (w : World) :
    Calls Try.prog 14 #[.string ⟨pass.toArray⟩, .string ⟨salt.toArray⟩, .int .i64 r, .int .i64 n] w fun e w' => e = .returned (.tuple #[.string ⟨(stretchR pass salt r n).1.toArray⟩, .int .i64 (stretchR pass salt r n).2]) ∧ Below w.heap.size w w' := by
  unfold stretchR
  by_cases h1 : r < 1
  · rw [if_pos (.inl h1)]
    exact (stretch_no1 _ _ r n h1 w).mono fun e w' ⟨h, hw⟩ => ⟨h, hw ▸ Below.refl _ _⟩
  by_cases h2 : 64 < r
  · rw [if_pos (.inr h2)]
    exact (stretch_no2 _ _ r n h2 w).mono fun e w' ⟨h, hw⟩ => ⟨h, hw ▸ Below.refl _ _⟩
  rw [if_neg (by omega)]
  by_cases h3 : n < 1
  · rw [if_pos (.inl h3)]
    exact (stretch_no3 _ _ r n h1 h2 h3 w).mono fun e w' ⟨h, hw⟩ => ⟨h, hw ▸ Below.refl _ _⟩
  by_cases h4 : 96 < n
  · rw [if_pos (.inr h4)]
    exact (stretch_no4 _ _ r n h1 h2 h4 w).mono fun e w' ⟨h, hw⟩ => ⟨h, hw ▸ Below.refl _ _⟩
  rw [if_neg (by omega)]
  have := stretch_yes pass salt hp hs r.toNat n.toNat (by omega) (by omega) (by omega) (by omega) w
  rwa [show ((r.toNat : Nat) : Int) = r from by omega, show ((n.toNat : Nat) : Int) = n from by omega] at this
end Go.Proofs.Yteaanoaldnnflaa
