/- A file's beginning: the program's way. Condition: the program's table. Rows of texts that a call makes; the records of a file: the program's way. Condition: the program's table. What gives up, lays a log's file, cuts a file, tells which file is the log's. Condition: the disk, the program's table. Cuts of an opening, and which file is the log's. Condition: the disk, the program's table. -/
import Derived.Test.YtmoihgniglomiaaDoorZd10
import Derived.Test.YtmoihgniglomiaaDoorZd05
set_option linter.unusedVariables false
set_option linter.unusedSimpArgs false
set_option maxRecDepth 100000
namespace Go.Proofs.YtmoihgniglomiaaDoor
open Go.RowKit Go.Sort
theorem i115 : (Tryd.prog.info? 115).map (·.size) = some 3 := by kernel_rfl
theorem ret_cell115 {fn : Func} {R : Ending → World → Prop} {a : Act} {w : World} {p : Tmp} (h : fn.results = #[.cell p 115]) (g : Nat) (x y z : Value) (hp : a.tmps.getD p undef = .pointer (some ⟨g, 0, none⟩)) (hk : Bk 115 w g #[x, y, z]) (hd : a.defers = []) (hR : R (.returned (.agg #[x, y, z])) w) : bodyPost Tryd.prog fn R .ret a w := by
  exact bodyPost_ret (v := .agg #[x, y, z]) (results_cell_row h a.tmps w g 115 #[x, y, z] (0, 0) _ hp hk Tryd.underlying115 rfl i115) hd hR
theorem Bk.put3 {t : TypeId} {w : World} {g : Nat} {a b c x y z : Value} (h : Bk t w g #[a, b, c]) : Bk t (((w.setCell ⟨g, 0, none⟩ x).setCell ⟨g, 1, none⟩ y).setCell ⟨g, 2, none⟩ z) g #[x, y, z] := by
  have := Bk.same (i := 2) (v := z) (Bk.same (i := 1) (v := y) (Bk.same (i := 0) (v := x) h))
  simpa using this
theorem below_put3 {B : Nat} {a w : World} {g : Nat} {x y z : Value} (h : Below B a w) (hg : B ≤ g) : Below B a (((w.setCell ⟨g, 0, none⟩ x).setCell ⟨g, 1, none⟩ y).setCell ⟨g, 2, none⟩ z) := ((h.setCell hg _).setCell hg _).setCell hg _
theorem prefix_take (l m : Bs) (h : m.length = 4) : Lib.hasPrefix l m = decide (l.take 4 = m) := by
  unfold Lib.hasPrefix
  rw [Bool.eq_iff_iff, List.isPrefixOf_iff_prefix, decide_eq_true_eq, ← h]
  constructor
  · intro hp; exact (List.prefix_iff_eq_take.1 hp).symm
  · intro hp; rw [← hp]; exact List.take_prefix _ _
def begV (x : Nat × Bs × Bs) : Value := .agg #[.int .i64 (x.1 : Int), .string ⟨x.2.1.toArray⟩, .string ⟨x.2.2.toArray⟩]
theorem valN_8 (l : Bs) (h : l.length = 8) : valN l = valN (l.take 4) * 4294967296 + valN (l.drop 4) := by
  have h1 : l.take 4 ++ l.drop 4 = l := List.take_append_drop 4 l
  have key : ∀ (b : Bs) (n : Nat), b.foldl (fun n x => 256 * n + x.toNat) n = n * 256 ^ b.length + valN b := by
    intro b
    induction b with
    | nil => intro n; simp [valN]
    | cons x b ih =>
      intro n
      simp only [List.foldl_cons, valN, List.length_cons, Nat.mul_zero, Nat.zero_add]
      rw [ih, ih x.toNat, Nat.pow_succ, Nat.add_mul]
      have : 256 * n * 256 ^ b.length = n * (256 ^ b.length * 256) := by ac_rfl
      omega
  conv => lhs; rw [← h1, valN_app, key]
  rw [List.length_drop, h]
set_option maxHeartbeats 16000000 in
theorem begin_mark (l : Bs) (hl : l.length ≤ 1048576) (hm : l.take 4 ≠ mark) (w : World) (hT : Tb w) :
    Calls Tryd.prog 94 #[.string ⟨l.toArray⟩] w fun e w' => e = .returned (.agg #[.int .i64 0, .string ⟨#[]⟩, .string ⟨#[]⟩]) ∧ Below w.heap.size w w' := by
  have HT := Lib.hid hT
  have hw0 : Below w.heap.size w (w.alloc (.cells #[.int .i64 0, .string ⟨#[]⟩, .string ⟨#[]⟩] 115)) := (Below.refl _ _).alloc (Nat.le_refl _) _
  have HW := Lib.hid hw0
  have HN : Hid (Bk 115 (w.alloc (.cells #[.int .i64 0, .string ⟨#[]⟩, .string ⟨#[]⟩] 115)) w.heap.size #[.int .i64 0, .string ⟨#[]⟩, .string ⟨#[]⟩]) := Lib.hid (Bk.new rfl)
  have HP := Lib.hid (fun w1 : World => Tryd.strings_CutPrefix ⟨l.toArray⟩ ⟨#[83, 78, 76, 49]⟩ w1)
  have hpr : Lib.hasPrefix l [83, 78, 76, 49] = false := by rw [prefix_take _ _ rfl]; simpa [mark] using hm
  have htr : Lib.trimPrefix l [83, 78, 76, 49] = l := by unfold Lib.trimPrefix; rw [hpr]; simp
  simp only [List.toList_toArray] at HP
  rw [hpr, htr] at HP
  clear hpr htr hT hw0
  go_enter Tryd.func94, Tryd.ntmps94
  go_wp2_with fail
  refine (HP.out _).mono ?_
  rintro e w1 ⟨rfl, rfl⟩
  go_wp2_with fail
  refine ret_cell115 rfl w.heap.size (.int .i64 0) (.string ⟨#[]⟩) (.string ⟨#[]⟩) rfl (by first | exact HN.out | exact HN.out.put3) rfl ⟨rfl, ?_⟩
  first | exact HW.out | exact below_put3 HW.out (Nat.le_refl _)
set_option maxHeartbeats 16000000 in
theorem begin_short (l : Bs) (hl : l.length ≤ 1048576) (hm : l.take 4 = mark) (h : l.length < 12) (w : World) (hT : Tb w) :
    Calls Tryd.prog 94 #[.string ⟨l.toArray⟩] w fun e w' => e = .returned (.agg #[.int .i64 0, .string ⟨#[]⟩, .string ⟨#[]⟩]) ∧ Below w.heap.size w w' := by
  have HT := Lib.hid hT
  have hw0 : Below w.heap.size w (w.alloc (.cells #[.int .i64 0, .string ⟨#[]⟩, .string ⟨#[]⟩] 115)) := (Below.refl _ _).alloc (Nat.le_refl _) _
  have HW := Lib.hid hw0
  have HN : Hid (Bk 115 (w.alloc (.cells #[.int .i64 0, .string ⟨#[]⟩, .string ⟨#[]⟩] 115)) w.heap.size #[.int .i64 0, .string ⟨#[]⟩, .string ⟨#[]⟩]) := Lib.hid (Bk.new rfl)
  have HP := Lib.hid (fun w1 : World => Tryd.strings_CutPrefix ⟨l.toArray⟩ ⟨#[83, 78, 76, 49]⟩ w1)
  have hpr : Lib.hasPrefix l [83, 78, 76, 49] = true := by rw [prefix_take _ _ rfl]; simpa [mark] using hm
  have htr : Lib.trimPrefix l [83, 78, 76, 49] = l.drop 4 := by unfold Lib.trimPrefix; rw [hpr]; simp
  simp only [List.toList_toArray] at HP
  rw [hpr, htr] at HP
  clear hpr htr hT hw0
  obtain ⟨n, hn⟩ : ∃ n, n = l.length := ⟨_, rfl⟩
  have hz4 : (⟨(l.drop 4).toArray⟩ : ByteArray).size = n - 4 := by rw [size_ba, List.length_drop, hn]
  have hz4b : (l.drop 4).length = n - 4 := by rw [List.length_drop, hn]
  have hs : decide (((n - 4 : Nat) : Int) < 8) = true := by simp; omega
  have hsn : decide (n - 4 < 8) = true := by simp; omega
  generalize n - 4 = k at *
  generalize l.drop 4 = q at *
  clear hl hm hn
  go_enter Tryd.func94, Tryd.ntmps94
  go_wp2_with fail
  refine (HP.out _).mono ?_
  rintro e w1 ⟨rfl, rfl⟩
  go_wp2_with fail
  refine ret_cell115 rfl w.heap.size (.int .i64 0) (.string ⟨#[]⟩) (.string ⟨#[]⟩) rfl (by first | exact HN.out | exact HN.out.put3) rfl ⟨rfl, ?_⟩
  first | exact HW.out | exact below_put3 HW.out (Nat.le_refl _)
set_option maxHeartbeats 16000000 in
theorem begin_nong (l : Bs) (hl : l.length ≤ 1048576) (hm : l.take 4 = mark) (h : ¬ l.length < 12) (hu : unframed (l.drop 12) 524288 = none) (hg : ¬ valN ((l.drop 4).take 8) ≤ 4611686018427387904) (w : World) (hT : Tb w) :
    Calls Tryd.prog 94 #[.string ⟨l.toArray⟩] w fun e w' => e = .returned (.agg #[.int .i64 0, .string ⟨#[]⟩, .string ⟨#[]⟩]) ∧ Below w.heap.size w w' := by
  have HT := Lib.hid hT
  have hw0 : Below w.heap.size w (w.alloc (.cells #[.int .i64 0, .string ⟨#[]⟩, .string ⟨#[]⟩] 115)) := (Below.refl _ _).alloc (Nat.le_refl _) _
  have HW := Lib.hid hw0
  have HN : Hid (Bk 115 (w.alloc (.cells #[.int .i64 0, .string ⟨#[]⟩, .string ⟨#[]⟩] 115)) w.heap.size #[.int .i64 0, .string ⟨#[]⟩, .string ⟨#[]⟩]) := Lib.hid (Bk.new rfl)
  have HP := Lib.hid (fun w1 : World => Tryd.strings_CutPrefix ⟨l.toArray⟩ ⟨#[83, 78, 76, 49]⟩ w1)
  have hpr : Lib.hasPrefix l [83, 78, 76, 49] = true := by rw [prefix_take _ _ rfl]; simpa [mark] using hm
  have htr : Lib.trimPrefix l [83, 78, 76, 49] = l.drop 4 := by unfold Lib.trimPrefix; rw [hpr]; simp
  simp only [List.toList_toArray] at HP
  rw [hpr, htr] at HP
  clear hpr htr hT hw0
  obtain ⟨n, hn⟩ : ∃ n, n = l.length := ⟨_, rfl⟩
  have hz4 : (⟨(l.drop 4).toArray⟩ : ByteArray).size = n - 4 := by rw [size_ba, List.length_drop, hn]
  have hz4b : (l.drop 4).length = n - 4 := by rw [List.length_drop, hn]
  have hs : decide (((n - 4 : Nat) : Int) < 8) = false := by simp; omega
  have hsn : decide (n - 4 < 8) = false := by simp; omega
  have hs8 : (8 : Int) ≤ ((n - 4 : Nat) : Int) := by omega
  have x4 : (⟨(l.drop 4).toArray⟩ : ByteArray).extract 0 4 = ⟨((l.drop 4).take 4).toArray⟩ := by rw [ba_extract]; simp
  have x48 : (⟨(l.drop 4).toArray⟩ : ByteArray).extract 4 8 = ⟨(((l.drop 4).drop 4).take 4).toArray⟩ := ba_extract _ _ _
  have x8 : (⟨(l.drop 4).toArray⟩ : ByteArray).extract 8 (n - 4) = ⟨(l.drop 12).toArray⟩ := by rw [ba_extract, List.take_of_length_le (by rw [List.length_drop, List.length_drop]; omega), List.drop_drop]
  have H1 : Hid (∀ (w1 : World) d os, Calls Tryd.prog 106 #[.string ⟨((l.drop 4).take 4).toArray⟩] (grow (redrawn w1 d) os) fun e w'' => e = .returned (.int .u32 (valN ((l.drop 4).take 4) : Int)) ∧ ∃ p : Regrown, w'' = grow (redrawn w1 p.d) p.os) := Lib.hid fun w1 d os => Calls.grown (number_any _ (by rw [List.length_take]; omega) _)
  have H2 : Hid (∀ (w1 : World) d os, Calls Tryd.prog 106 #[.string ⟨(((l.drop 4).drop 4).take 4).toArray⟩] (grow (redrawn w1 d) os) fun e w'' => e = .returned (.int .u32 (valN (((l.drop 4).drop 4).take 4) : Int)) ∧ ∃ p : Regrown, w'' = grow (redrawn w1 p.d) p.os) := Lib.hid fun w1 d os => Calls.grown (number_any _ (by rw [List.length_take]; omega) _)
  have HU := Lib.hid (unframed_any (l.drop 12) 524288 (by rw [List.length_drop]; omega))
  have hv1 : valN ((l.drop 4).take 4) < 4294967296 := valN4 _ (by rw [List.length_take]; omega)
  have hv2 : valN (((l.drop 4).drop 4).take 4) < 4294967296 := valN4 _ (by rw [List.length_take]; omega)
  have hv : valN ((l.drop 4).take 8) = valN ((l.drop 4).take 4) * 4294967296 + valN (((l.drop 4).drop 4).take 4) := by
    rw [valN_8 _ (by rw [List.length_take, List.length_drop]; omega), List.take_take, List.drop_take]
    rfl
  have hor : bits .or .u64 ((valN ((l.drop 4).take 4) : Int) * 4294967296) (valN (((l.drop 4).drop 4).take 4) : Int) = (valN ((l.drop 4).take 8) : Int) := by
    rw [show ((valN ((l.drop 4).take 4) : Int) * 4294967296) = ((valN ((l.drop 4).take 4) * 4294967296 : Nat) : Int) by omega, u64_or_nat _ _ (by omega) (by omega), nat_join 32 _ _ (by omega) (by omega), hv]
  rw [hu] at HU
  generalize valN ((l.drop 4).take 8) = v at *
  generalize valN ((l.drop 4).take 4) = v1 at *
  generalize valN (((l.drop 4).drop 4).take 4) = v2 at *
  generalize (l.drop 4).take 4 = q1 at *
  generalize ((l.drop 4).drop 4).take 4 = q2 at *
  generalize l.drop 12 = q3 at *
  generalize n - 4 = k at *
  generalize l.drop 4 = q at *
  have hi1 : (0 : Int) ≤ v1 := by omega
  have hi2 : (v1 : Int) < 4294967296 := by omega
  have hi3 : (0 : Int) ≤ v2 := by omega
  have hi4 : (v2 : Int) < 4294967296 := by omega
  have hi5 : (0 : Int) ≤ v := by omega
  have hi6 : (v : Int) < 18446744073709551616 := by omega
  have hd : decide ((4611686018427387904 : Int) < (v : Int)) = true := by simp; omega
  have hdn : decide (4611686018427387904 < v) = true := by simp; omega
  clear hl hm hn hv
  go_enter Tryd.func94, Tryd.ntmps94
  go_wp2_with fail
  refine (HP.out _).mono ?_
  rintro e w1 ⟨rfl, rfl⟩
  go_wp2_with fail
  generalize (w.alloc (.cells #[.int .i64 0, .string ⟨#[]⟩, .string ⟨#[]⟩] 115)) = w1 at HW HN ⊢
  replace H1 := Lib.hid (H1.out w1)
  replace H2 := Lib.hid (H2.out w1)
  refine wp_region_quiet_below mixed (by kernel_rfl) ?_
  repeat (first | go_big_quiet_step (first | (with_reducible exact H1.out _ _) | (with_reducible exact H2.out _ _)) | quiet_step (first | (with_reducible exact H1.out _ _) | (with_reducible exact H2.out _ _)))
  refine wpQuiet_nil ?_
  intro _ hw'
  obtain ⟨⟨dq, osq⟩, hw''⟩ := hw'
  subst hw''
  have hb2 := below_regrown w1 dq osq
  replace HN := Lib.hid (HN.out.below hb2)
  replace HW := Lib.hid (HW.out.trans (hb2.mono HW.out.size))
  generalize grow (redrawn w1 dq) osq = w2 at HN HW ⊢
  clear hb2 H1 H2
  go_wp2_with fail
  refine (HU.out w2 (HT.out.below HW.out)).mono ?_
  rintro e w3 ⟨rfl, hb3⟩
  replace HN := Lib.hid (HN.out.below hb3)
  replace HW := Lib.hid (HW.out.trans (hb3.mono HW.out.size))
  clear hb3 HT HU HP
  unfold ufV
  obtain ⟨i0, i1, i2, -⟩ : w3.cell? ⟨w.heap.size, 0, none⟩ = some (.int .i64 0) ∧ w3.cell? ⟨w.heap.size, 1, none⟩ = some (.string ⟨#[]⟩) ∧ w3.cell? ⟨w.heap.size, 2, none⟩ = some (.string ⟨#[]⟩) ∧ True := ⟨HN.out.cell 0, HN.out.cell 1, HN.out.cell 2, trivial⟩
  have f0 := HN.out.fro 0
  have f1 := HN.out.fro 1
  have f2 := HN.out.fro 2
  go_wp2_with fail
  refine ret_cell115 rfl w.heap.size (.int .i64 0) (.string ⟨#[]⟩) (.string ⟨#[]⟩) rfl (by first | exact HN.out | exact HN.out.put3) rfl ⟨rfl, ?_⟩
  first | exact HW.out | exact below_put3 HW.out (Nat.le_refl _)
set_option maxHeartbeats 16000000 in
theorem begin_nono (l : Bs) (hl : l.length ≤ 1048576) (hm : l.take 4 = mark) (h : ¬ l.length < 12) (hu : unframed (l.drop 12) 524288 = none) (hg : valN ((l.drop 4).take 8) ≤ 4611686018427387904) (w : World) (hT : Tb w) :
    Calls Tryd.prog 94 #[.string ⟨l.toArray⟩] w fun e w' => e = .returned (.agg #[.int .i64 0, .string ⟨#[]⟩, .string ⟨#[]⟩]) ∧ Below w.heap.size w w' := by
  have HT := Lib.hid hT
  have hw0 : Below w.heap.size w (w.alloc (.cells #[.int .i64 0, .string ⟨#[]⟩, .string ⟨#[]⟩] 115)) := (Below.refl _ _).alloc (Nat.le_refl _) _
  have HW := Lib.hid hw0
  have HN : Hid (Bk 115 (w.alloc (.cells #[.int .i64 0, .string ⟨#[]⟩, .string ⟨#[]⟩] 115)) w.heap.size #[.int .i64 0, .string ⟨#[]⟩, .string ⟨#[]⟩]) := Lib.hid (Bk.new rfl)
  have HP := Lib.hid (fun w1 : World => Tryd.strings_CutPrefix ⟨l.toArray⟩ ⟨#[83, 78, 76, 49]⟩ w1)
  have hpr : Lib.hasPrefix l [83, 78, 76, 49] = true := by rw [prefix_take _ _ rfl]; simpa [mark] using hm
  have htr : Lib.trimPrefix l [83, 78, 76, 49] = l.drop 4 := by unfold Lib.trimPrefix; rw [hpr]; simp
  simp only [List.toList_toArray] at HP
  rw [hpr, htr] at HP
  clear hpr htr hT hw0
  obtain ⟨n, hn⟩ : ∃ n, n = l.length := ⟨_, rfl⟩
  have hz4 : (⟨(l.drop 4).toArray⟩ : ByteArray).size = n - 4 := by rw [size_ba, List.length_drop, hn]
  have hz4b : (l.drop 4).length = n - 4 := by rw [List.length_drop, hn]
  have hs : decide (((n - 4 : Nat) : Int) < 8) = false := by simp; omega
  have hsn : decide (n - 4 < 8) = false := by simp; omega
  have hs8 : (8 : Int) ≤ ((n - 4 : Nat) : Int) := by omega
  have x4 : (⟨(l.drop 4).toArray⟩ : ByteArray).extract 0 4 = ⟨((l.drop 4).take 4).toArray⟩ := by rw [ba_extract]; simp
  have x48 : (⟨(l.drop 4).toArray⟩ : ByteArray).extract 4 8 = ⟨(((l.drop 4).drop 4).take 4).toArray⟩ := ba_extract _ _ _
  have x8 : (⟨(l.drop 4).toArray⟩ : ByteArray).extract 8 (n - 4) = ⟨(l.drop 12).toArray⟩ := by rw [ba_extract, List.take_of_length_le (by rw [List.length_drop, List.length_drop]; omega), List.drop_drop]
  have H1 : Hid (∀ (w1 : World) d os, Calls Tryd.prog 106 #[.string ⟨((l.drop 4).take 4).toArray⟩] (grow (redrawn w1 d) os) fun e w'' => e = .returned (.int .u32 (valN ((l.drop 4).take 4) : Int)) ∧ ∃ p : Regrown, w'' = grow (redrawn w1 p.d) p.os) := Lib.hid fun w1 d os => Calls.grown (number_any _ (by rw [List.length_take]; omega) _)
  have H2 : Hid (∀ (w1 : World) d os, Calls Tryd.prog 106 #[.string ⟨(((l.drop 4).drop 4).take 4).toArray⟩] (grow (redrawn w1 d) os) fun e w'' => e = .returned (.int .u32 (valN (((l.drop 4).drop 4).take 4) : Int)) ∧ ∃ p : Regrown, w'' = grow (redrawn w1 p.d) p.os) := Lib.hid fun w1 d os => Calls.grown (number_any _ (by rw [List.length_take]; omega) _)
  have HU := Lib.hid (unframed_any (l.drop 12) 524288 (by rw [List.length_drop]; omega))
  have hv1 : valN ((l.drop 4).take 4) < 4294967296 := valN4 _ (by rw [List.length_take]; omega)
  have hv2 : valN (((l.drop 4).drop 4).take 4) < 4294967296 := valN4 _ (by rw [List.length_take]; omega)
  have hv : valN ((l.drop 4).take 8) = valN ((l.drop 4).take 4) * 4294967296 + valN (((l.drop 4).drop 4).take 4) := by
    rw [valN_8 _ (by rw [List.length_take, List.length_drop]; omega), List.take_take, List.drop_take]
    rfl
  have hor : bits .or .u64 ((valN ((l.drop 4).take 4) : Int) * 4294967296) (valN (((l.drop 4).drop 4).take 4) : Int) = (valN ((l.drop 4).take 8) : Int) := by
    rw [show ((valN ((l.drop 4).take 4) : Int) * 4294967296) = ((valN ((l.drop 4).take 4) * 4294967296 : Nat) : Int) by omega, u64_or_nat _ _ (by omega) (by omega), nat_join 32 _ _ (by omega) (by omega), hv]
  rw [hu] at HU
  generalize valN ((l.drop 4).take 8) = v at *
  generalize valN ((l.drop 4).take 4) = v1 at *
  generalize valN (((l.drop 4).drop 4).take 4) = v2 at *
  generalize (l.drop 4).take 4 = q1 at *
  generalize ((l.drop 4).drop 4).take 4 = q2 at *
  generalize l.drop 12 = q3 at *
  generalize n - 4 = k at *
  generalize l.drop 4 = q at *
  have hi1 : (0 : Int) ≤ v1 := by omega
  have hi2 : (v1 : Int) < 4294967296 := by omega
  have hi3 : (0 : Int) ≤ v2 := by omega
  have hi4 : (v2 : Int) < 4294967296 := by omega
  have hi5 : (0 : Int) ≤ v := by omega
  have hi6 : (v : Int) < 18446744073709551616 := by omega
  have hd : decide ((4611686018427387904 : Int) < (v : Int)) = false := by simp; omega
  have hdn : decide (4611686018427387904 < v) = false := by simp; omega
  clear hl hm hn hv
  go_enter Tryd.func94, Tryd.ntmps94
  go_wp2_with fail
  refine (HP.out _).mono ?_
  rintro e w1 ⟨rfl, rfl⟩
  go_wp2_with fail
  generalize (w.alloc (.cells #[.int .i64 0, .string ⟨#[]⟩, .string ⟨#[]⟩] 115)) = w1 at HW HN ⊢
  replace H1 := Lib.hid (H1.out w1)
  replace H2 := Lib.hid (H2.out w1)
  refine wp_region_quiet_below mixed (by kernel_rfl) ?_
  repeat (first | go_big_quiet_step (first | (with_reducible exact H1.out _ _) | (with_reducible exact H2.out _ _)) | quiet_step (first | (with_reducible exact H1.out _ _) | (with_reducible exact H2.out _ _)))
  refine wpQuiet_nil ?_
  intro _ hw'
  obtain ⟨⟨dq, osq⟩, hw''⟩ := hw'
  subst hw''
  have hb2 := below_regrown w1 dq osq
  replace HN := Lib.hid (HN.out.below hb2)
  replace HW := Lib.hid (HW.out.trans (hb2.mono HW.out.size))
  generalize grow (redrawn w1 dq) osq = w2 at HN HW ⊢
  clear hb2 H1 H2
  go_wp2_with fail
  refine (HU.out w2 (HT.out.below HW.out)).mono ?_
  rintro e w3 ⟨rfl, hb3⟩
  replace HN := Lib.hid (HN.out.below hb3)
  replace HW := Lib.hid (HW.out.trans (hb3.mono HW.out.size))
  clear hb3 HT HU HP
  unfold ufV
  obtain ⟨i0, i1, i2, -⟩ : w3.cell? ⟨w.heap.size, 0, none⟩ = some (.int .i64 0) ∧ w3.cell? ⟨w.heap.size, 1, none⟩ = some (.string ⟨#[]⟩) ∧ w3.cell? ⟨w.heap.size, 2, none⟩ = some (.string ⟨#[]⟩) ∧ True := ⟨HN.out.cell 0, HN.out.cell 1, HN.out.cell 2, trivial⟩
  have f0 := HN.out.fro 0
  have f1 := HN.out.fro 1
  have f2 := HN.out.fro 2
  go_wp2_with fail
  refine ret_cell115 rfl w.heap.size (.int .i64 0) (.string ⟨#[]⟩) (.string ⟨#[]⟩) rfl (by first | exact HN.out | exact HN.out.put3) rfl ⟨rfl, ?_⟩
  first | exact HW.out | exact below_put3 HW.out (Nat.le_refl _)
set_option maxHeartbeats 16000000 in
theorem begin_gen (l : Bs) (hl : l.length ≤ 1048576) (hm : l.take 4 = mark) (h : ¬ l.length < 12) (snap b : Bs) (hu : unframed (l.drop 12) 524288 = some (snap, b)) (hg : ¬ valN ((l.drop 4).take 8) ≤ 4611686018427387904) (w : World) (hT : Tb w) :
    Calls Tryd.prog 94 #[.string ⟨l.toArray⟩] w fun e w' => e = .returned (.agg #[.int .i64 0, .string ⟨#[]⟩, .string ⟨#[]⟩]) ∧ Below w.heap.size w w' := by
  have HT := Lib.hid hT
  have hw0 : Below w.heap.size w (w.alloc (.cells #[.int .i64 0, .string ⟨#[]⟩, .string ⟨#[]⟩] 115)) := (Below.refl _ _).alloc (Nat.le_refl _) _
  have HW := Lib.hid hw0
  have HN : Hid (Bk 115 (w.alloc (.cells #[.int .i64 0, .string ⟨#[]⟩, .string ⟨#[]⟩] 115)) w.heap.size #[.int .i64 0, .string ⟨#[]⟩, .string ⟨#[]⟩]) := Lib.hid (Bk.new rfl)
  have HP := Lib.hid (fun w1 : World => Tryd.strings_CutPrefix ⟨l.toArray⟩ ⟨#[83, 78, 76, 49]⟩ w1)
  have hpr : Lib.hasPrefix l [83, 78, 76, 49] = true := by rw [prefix_take _ _ rfl]; simpa [mark] using hm
  have htr : Lib.trimPrefix l [83, 78, 76, 49] = l.drop 4 := by unfold Lib.trimPrefix; rw [hpr]; simp
  simp only [List.toList_toArray] at HP
  rw [hpr, htr] at HP
  clear hpr htr hT hw0
  obtain ⟨n, hn⟩ : ∃ n, n = l.length := ⟨_, rfl⟩
  have hz4 : (⟨(l.drop 4).toArray⟩ : ByteArray).size = n - 4 := by rw [size_ba, List.length_drop, hn]
  have hz4b : (l.drop 4).length = n - 4 := by rw [List.length_drop, hn]
  have hs : decide (((n - 4 : Nat) : Int) < 8) = false := by simp; omega
  have hsn : decide (n - 4 < 8) = false := by simp; omega
  have hs8 : (8 : Int) ≤ ((n - 4 : Nat) : Int) := by omega
  have x4 : (⟨(l.drop 4).toArray⟩ : ByteArray).extract 0 4 = ⟨((l.drop 4).take 4).toArray⟩ := by rw [ba_extract]; simp
  have x48 : (⟨(l.drop 4).toArray⟩ : ByteArray).extract 4 8 = ⟨(((l.drop 4).drop 4).take 4).toArray⟩ := ba_extract _ _ _
  have x8 : (⟨(l.drop 4).toArray⟩ : ByteArray).extract 8 (n - 4) = ⟨(l.drop 12).toArray⟩ := by rw [ba_extract, List.take_of_length_le (by rw [List.length_drop, List.length_drop]; omega), List.drop_drop]
  have H1 : Hid (∀ (w1 : World) d os, Calls Tryd.prog 106 #[.string ⟨((l.drop 4).take 4).toArray⟩] (grow (redrawn w1 d) os) fun e w'' => e = .returned (.int .u32 (valN ((l.drop 4).take 4) : Int)) ∧ ∃ p : Regrown, w'' = grow (redrawn w1 p.d) p.os) := Lib.hid fun w1 d os => Calls.grown (number_any _ (by rw [List.length_take]; omega) _)
  have H2 : Hid (∀ (w1 : World) d os, Calls Tryd.prog 106 #[.string ⟨(((l.drop 4).drop 4).take 4).toArray⟩] (grow (redrawn w1 d) os) fun e w'' => e = .returned (.int .u32 (valN (((l.drop 4).drop 4).take 4) : Int)) ∧ ∃ p : Regrown, w'' = grow (redrawn w1 p.d) p.os) := Lib.hid fun w1 d os => Calls.grown (number_any _ (by rw [List.length_take]; omega) _)
  have HU := Lib.hid (unframed_any (l.drop 12) 524288 (by rw [List.length_drop]; omega))
  have hv1 : valN ((l.drop 4).take 4) < 4294967296 := valN4 _ (by rw [List.length_take]; omega)
  have hv2 : valN (((l.drop 4).drop 4).take 4) < 4294967296 := valN4 _ (by rw [List.length_take]; omega)
  have hv : valN ((l.drop 4).take 8) = valN ((l.drop 4).take 4) * 4294967296 + valN (((l.drop 4).drop 4).take 4) := by
    rw [valN_8 _ (by rw [List.length_take, List.length_drop]; omega), List.take_take, List.drop_take]
    rfl
  have hor : bits .or .u64 ((valN ((l.drop 4).take 4) : Int) * 4294967296) (valN (((l.drop 4).drop 4).take 4) : Int) = (valN ((l.drop 4).take 8) : Int) := by
    rw [show ((valN ((l.drop 4).take 4) : Int) * 4294967296) = ((valN ((l.drop 4).take 4) * 4294967296 : Nat) : Int) by omega, u64_or_nat _ _ (by omega) (by omega), nat_join 32 _ _ (by omega) (by omega), hv]
  rw [hu] at HU
  have hul := unframed_len hu
  generalize valN ((l.drop 4).take 8) = v at *
  generalize valN ((l.drop 4).take 4) = v1 at *
  generalize valN (((l.drop 4).drop 4).take 4) = v2 at *
  generalize (l.drop 4).take 4 = q1 at *
  generalize ((l.drop 4).drop 4).take 4 = q2 at *
  generalize l.drop 12 = q3 at *
  generalize n - 4 = k at *
  generalize l.drop 4 = q at *
  have hi1 : (0 : Int) ≤ v1 := by omega
  have hi2 : (v1 : Int) < 4294967296 := by omega
  have hi3 : (0 : Int) ≤ v2 := by omega
  have hi4 : (v2 : Int) < 4294967296 := by omega
  have hi5 : (0 : Int) ≤ v := by omega
  have hi6 : (v : Int) < 18446744073709551616 := by omega
  have hd : decide ((4611686018427387904 : Int) < (v : Int)) = true := by simp; omega
  have hdn : decide (4611686018427387904 < v) = true := by simp; omega
  clear hl hm hn hv
  go_enter Tryd.func94, Tryd.ntmps94
  go_wp2_with fail
  refine (HP.out _).mono ?_
  rintro e w1 ⟨rfl, rfl⟩
  go_wp2_with fail
  generalize (w.alloc (.cells #[.int .i64 0, .string ⟨#[]⟩, .string ⟨#[]⟩] 115)) = w1 at HW HN ⊢
  replace H1 := Lib.hid (H1.out w1)
  replace H2 := Lib.hid (H2.out w1)
  refine wp_region_quiet_below mixed (by kernel_rfl) ?_
  repeat (first | go_big_quiet_step (first | (with_reducible exact H1.out _ _) | (with_reducible exact H2.out _ _)) | quiet_step (first | (with_reducible exact H1.out _ _) | (with_reducible exact H2.out _ _)))
  refine wpQuiet_nil ?_
  intro _ hw'
  obtain ⟨⟨dq, osq⟩, hw''⟩ := hw'
  subst hw''
  have hb2 := below_regrown w1 dq osq
  replace HN := Lib.hid (HN.out.below hb2)
  replace HW := Lib.hid (HW.out.trans (hb2.mono HW.out.size))
  generalize grow (redrawn w1 dq) osq = w2 at HN HW ⊢
  clear hb2 H1 H2
  go_wp2_with fail
  refine (HU.out w2 (HT.out.below HW.out)).mono ?_
  rintro e w3 ⟨rfl, hb3⟩
  replace HN := Lib.hid (HN.out.below hb3)
  replace HW := Lib.hid (HW.out.trans (hb3.mono HW.out.size))
  clear hb3 HT HU HP
  unfold ufV
  obtain ⟨i0, i1, i2, -⟩ : w3.cell? ⟨w.heap.size, 0, none⟩ = some (.int .i64 0) ∧ w3.cell? ⟨w.heap.size, 1, none⟩ = some (.string ⟨#[]⟩) ∧ w3.cell? ⟨w.heap.size, 2, none⟩ = some (.string ⟨#[]⟩) ∧ True := ⟨HN.out.cell 0, HN.out.cell 1, HN.out.cell 2, trivial⟩
  have f0 := HN.out.fro 0
  have f1 := HN.out.fro 1
  have f2 := HN.out.fro 2
  go_wp2_with fail
  refine ret_cell115 rfl w.heap.size (.int .i64 0) (.string ⟨#[]⟩) (.string ⟨#[]⟩) rfl (by first | exact HN.out | exact HN.out.put3) rfl ⟨rfl, ?_⟩
  first | exact HW.out | exact below_put3 HW.out (Nat.le_refl _)
set_option maxHeartbeats 16000000 in
theorem begin_ok (l : Bs) (hl : l.length ≤ 1048576) (hm : l.take 4 = mark) (h : ¬ l.length < 12) (snap b : Bs) (hu : unframed (l.drop 12) 524288 = some (snap, b)) (hg : valN ((l.drop 4).take 8) ≤ 4611686018427387904) (w : World) (hT : Tb w) :
    Calls Tryd.prog 94 #[.string ⟨l.toArray⟩] w fun e w' => e = .returned (.agg #[.int .i64 (valN ((l.drop 4).take 8) : Int), .string ⟨snap.toArray⟩, .string ⟨b.toArray⟩]) ∧ Below w.heap.size w w' := by
  have HT := Lib.hid hT
  have hw0 : Below w.heap.size w (w.alloc (.cells #[.int .i64 0, .string ⟨#[]⟩, .string ⟨#[]⟩] 115)) := (Below.refl _ _).alloc (Nat.le_refl _) _
  have HW := Lib.hid hw0
  have HN : Hid (Bk 115 (w.alloc (.cells #[.int .i64 0, .string ⟨#[]⟩, .string ⟨#[]⟩] 115)) w.heap.size #[.int .i64 0, .string ⟨#[]⟩, .string ⟨#[]⟩]) := Lib.hid (Bk.new rfl)
  have HP := Lib.hid (fun w1 : World => Tryd.strings_CutPrefix ⟨l.toArray⟩ ⟨#[83, 78, 76, 49]⟩ w1)
  have hpr : Lib.hasPrefix l [83, 78, 76, 49] = true := by rw [prefix_take _ _ rfl]; simpa [mark] using hm
  have htr : Lib.trimPrefix l [83, 78, 76, 49] = l.drop 4 := by unfold Lib.trimPrefix; rw [hpr]; simp
  simp only [List.toList_toArray] at HP
  rw [hpr, htr] at HP
  clear hpr htr hT hw0
  obtain ⟨n, hn⟩ : ∃ n, n = l.length := ⟨_, rfl⟩
  have hz4 : (⟨(l.drop 4).toArray⟩ : ByteArray).size = n - 4 := by rw [size_ba, List.length_drop, hn]
  have hz4b : (l.drop 4).length = n - 4 := by rw [List.length_drop, hn]
  have hs : decide (((n - 4 : Nat) : Int) < 8) = false := by simp; omega
  have hsn : decide (n - 4 < 8) = false := by simp; omega
  have hs8 : (8 : Int) ≤ ((n - 4 : Nat) : Int) := by omega
  have x4 : (⟨(l.drop 4).toArray⟩ : ByteArray).extract 0 4 = ⟨((l.drop 4).take 4).toArray⟩ := by rw [ba_extract]; simp
  have x48 : (⟨(l.drop 4).toArray⟩ : ByteArray).extract 4 8 = ⟨(((l.drop 4).drop 4).take 4).toArray⟩ := ba_extract _ _ _
  have x8 : (⟨(l.drop 4).toArray⟩ : ByteArray).extract 8 (n - 4) = ⟨(l.drop 12).toArray⟩ := by rw [ba_extract, List.take_of_length_le (by rw [List.length_drop, List.length_drop]; omega), List.drop_drop]
  have H1 : Hid (∀ (w1 : World) d os, Calls Tryd.prog 106 #[.string ⟨((l.drop 4).take 4).toArray⟩] (grow (redrawn w1 d) os) fun e w'' => e = .returned (.int .u32 (valN ((l.drop 4).take 4) : Int)) ∧ ∃ p : Regrown, w'' = grow (redrawn w1 p.d) p.os) := Lib.hid fun w1 d os => Calls.grown (number_any _ (by rw [List.length_take]; omega) _)
  have H2 : Hid (∀ (w1 : World) d os, Calls Tryd.prog 106 #[.string ⟨(((l.drop 4).drop 4).take 4).toArray⟩] (grow (redrawn w1 d) os) fun e w'' => e = .returned (.int .u32 (valN (((l.drop 4).drop 4).take 4) : Int)) ∧ ∃ p : Regrown, w'' = grow (redrawn w1 p.d) p.os) := Lib.hid fun w1 d os => Calls.grown (number_any _ (by rw [List.length_take]; omega) _)
  have HU := Lib.hid (unframed_any (l.drop 12) 524288 (by rw [List.length_drop]; omega))
  have hv1 : valN ((l.drop 4).take 4) < 4294967296 := valN4 _ (by rw [List.length_take]; omega)
  have hv2 : valN (((l.drop 4).drop 4).take 4) < 4294967296 := valN4 _ (by rw [List.length_take]; omega)
  have hv : valN ((l.drop 4).take 8) = valN ((l.drop 4).take 4) * 4294967296 + valN (((l.drop 4).drop 4).take 4) := by
    rw [valN_8 _ (by rw [List.length_take, List.length_drop]; omega), List.take_take, List.drop_take]
    rfl
  have hor : bits .or .u64 ((valN ((l.drop 4).take 4) : Int) * 4294967296) (valN (((l.drop 4).drop 4).take 4) : Int) = (valN ((l.drop 4).take 8) : Int) := by
    rw [show ((valN ((l.drop 4).take 4) : Int) * 4294967296) = ((valN ((l.drop 4).take 4) * 4294967296 : Nat) : Int) by omega, u64_or_nat _ _ (by omega) (by omega), nat_join 32 _ _ (by omega) (by omega), hv]
  rw [hu] at HU
  have hul := unframed_len hu
  generalize valN ((l.drop 4).take 8) = v at *
  generalize valN ((l.drop 4).take 4) = v1 at *
  generalize valN (((l.drop 4).drop 4).take 4) = v2 at *
  generalize (l.drop 4).take 4 = q1 at *
  generalize ((l.drop 4).drop 4).take 4 = q2 at *
  generalize l.drop 12 = q3 at *
  generalize n - 4 = k at *
  generalize l.drop 4 = q at *
  have hi1 : (0 : Int) ≤ v1 := by omega
  have hi2 : (v1 : Int) < 4294967296 := by omega
  have hi3 : (0 : Int) ≤ v2 := by omega
  have hi4 : (v2 : Int) < 4294967296 := by omega
  have hi5 : (0 : Int) ≤ v := by omega
  have hi6 : (v : Int) < 18446744073709551616 := by omega
  have hd : decide ((4611686018427387904 : Int) < (v : Int)) = false := by simp; omega
  have hdn : decide (4611686018427387904 < v) = false := by simp; omega
  have hi7 : (v : Int) ≤ 4611686018427387904 := by omega
  clear hl hm hn hv
  go_enter Tryd.func94, Tryd.ntmps94
  go_wp2_with fail
  refine (HP.out _).mono ?_
  rintro e w1 ⟨rfl, rfl⟩
  go_wp2_with fail
  generalize (w.alloc (.cells #[.int .i64 0, .string ⟨#[]⟩, .string ⟨#[]⟩] 115)) = w1 at HW HN ⊢
  replace H1 := Lib.hid (H1.out w1)
  replace H2 := Lib.hid (H2.out w1)
  refine wp_region_quiet_below mixed (by kernel_rfl) ?_
  repeat (first | go_big_quiet_step (first | (with_reducible exact H1.out _ _) | (with_reducible exact H2.out _ _)) | quiet_step (first | (with_reducible exact H1.out _ _) | (with_reducible exact H2.out _ _)))
  refine wpQuiet_nil ?_
  intro _ hw'
  obtain ⟨⟨dq, osq⟩, hw''⟩ := hw'
  subst hw''
  have hb2 := below_regrown w1 dq osq
  replace HN := Lib.hid (HN.out.below hb2)
  replace HW := Lib.hid (HW.out.trans (hb2.mono HW.out.size))
  generalize grow (redrawn w1 dq) osq = w2 at HN HW ⊢
  clear hb2 H1 H2
  go_wp2_with fail
  refine (HU.out w2 (HT.out.below HW.out)).mono ?_
  rintro e w3 ⟨rfl, hb3⟩
  replace HN := Lib.hid (HN.out.below hb3)
  replace HW := Lib.hid (HW.out.trans (hb3.mono HW.out.size))
  clear hb3 HT HU HP
  unfold ufV
  obtain ⟨i0, i1, i2, -⟩ : w3.cell? ⟨w.heap.size, 0, none⟩ = some (.int .i64 0) ∧ w3.cell? ⟨w.heap.size, 1, none⟩ = some (.string ⟨#[]⟩) ∧ w3.cell? ⟨w.heap.size, 2, none⟩ = some (.string ⟨#[]⟩) ∧ True := ⟨HN.out.cell 0, HN.out.cell 1, HN.out.cell 2, trivial⟩
  have f0 := HN.out.fro 0
  have f1 := HN.out.fro 1
  have f2 := HN.out.fro 2
  go_wp2_with fail
  refine ret_cell115 rfl w.heap.size (.int .i64 (v : Int)) (.string ⟨snap.toArray⟩) (.string ⟨b.toArray⟩) rfl (by first | exact HN.out | exact HN.out.put3) rfl ⟨rfl, ?_⟩
  first | exact HW.out | exact below_put3 HW.out (Nat.le_refl _)
theorem begin_any (l : Bs) (hl : l.length ≤ 1048576) (w : World) (hT : Tb w) :
    Calls Tryd.prog 94 #[.string ⟨l.toArray⟩] w fun e w' => e = .returned (begV (begins l)) ∧ Below w.heap.size w w' := by
  unfold begins
  by_cases hm : l.take 4 = mark
  · by_cases h : l.length < 12
    · rw [if_neg (by omega)]; exact begin_short l hl hm h w hT
    · cases hu : unframed (l.drop 12) 524288 with
      | none =>
        by_cases hg : valN ((l.drop 4).take 8) ≤ 4611686018427387904
        · rw [if_pos ⟨hm, by omega, hg⟩]; exact begin_nono l hl hm h hu hg w hT
        · rw [if_neg (fun h => hg h.2.2)]; exact begin_nong l hl hm h hu hg w hT
      | some x =>
        obtain ⟨snap, b⟩ := x
        by_cases hg : valN ((l.drop 4).take 8) ≤ 4611686018427387904
        · rw [if_pos ⟨hm, by omega, hg⟩]; exact begin_ok l hl hm h snap b hu hg w hT
        · rw [if_neg (fun h => hg h.2.2)]; exact begin_gen l hl hm h snap b hu hg w hT
  · rw [if_neg (fun h => hm h.1)]; exact begin_mark l hl hm w hT
def scells (l : List Bs) : List Value := l.map fun s => .string ⟨s.toArray⟩
theorem scells_len (l : List Bs) : (scells l).length = l.length := by simp [scells]
theorem scells_app (a b : List Bs) : scells (a ++ b) = scells a ++ scells b := by simp [scells]
theorem scells_one (l : List Bs) : ∀ u ∈ scells l, u.oneCell' = true := by
  intro u hu
  simp only [scells, List.mem_map] at hu
  obtain ⟨s, _, rfl⟩ := hu
  rfl
theorem info9 : (Tryd.prog.info? 9).map (fun i => (i.zero, i.size, i.bytes)) = some (some (.string ⟨#[]⟩), 1, 16) := by kernel_rfl
theorem u31 : Tryd.prog.underlying 31 = some (.slice 9) := by kernel_rfl
theorem ownsS_of {w w' : World} {v : Value} {n : Nat} {xs : List Value} (h : w.ownsRow 0 9 1 v n xs) (e : ∀ g, v.ownBlock = some g → g < w.heap.size → w'.heap[g]? = w.heap[g]?) : w'.ownsRow 0 9 1 v n xs := by
  obtain ⟨hl, h | ⟨g, cap, cur, hv, hb, hg, rest⟩⟩ := h
  · exact ⟨hl, .inl h⟩
  · exact ⟨hl, .inr ⟨g, cap, cur, hv, hb, (e g (by rw [hv]; rfl) (blk_lt hg)).trans hg, rest⟩⟩
def Sr (w0 w : World) (v : Value) (l : List Bs) : Prop := w.ownsRow 0 9 1 v l.length (scells l) ∧ Below w0.heap.size w0 w ∧ ∀ k, v.ownBlock = some k → w0.heap.size ≤ k
theorem Sr.down {w0 w w' : World} {v : Value} {l : List Bs} (h : Sr w0 w v l) (hb : Below w.heap.size w w') : Sr w0 w' v l :=
  ⟨ownsS_of h.1 fun g _ hg => hb.block g hg, h.2.1.trans (hb.mono h.2.1.size), h.2.2⟩
theorem Sr.nil (w : World) : Sr w w (.slice none 0 0) [] := ⟨⟨rfl, .inl ⟨rfl, rfl⟩⟩, Below.refl _ _, fun k hk => by cases hk⟩
theorem Sr.shape {w0 w : World} {v : Value} {l : List Bs} (h : Sr w0 w v l) : ∃ a c, v = .slice a l.length c := by
  obtain ⟨⟨_, ⟨rfl, hn⟩ | ⟨q, cap, cur, rfl, _⟩⟩, _⟩ := h
  · exact ⟨none, 0, by rw [hn]⟩
  · exact ⟨_, _, rfl⟩
theorem Sr.more {w0 W : World} {v : Value} {l : List Bs} (ty : TypeId) (h : Sr w0 W v l) (q c : Nat) (s : Bs) (hq : Bk 9 W q #[.string ⟨s.toArray⟩]) (hl : l.length + 1 ≤ 4194304) :
    ∃ v' w', (Builtin.append_ #[31, 31] ty #[v, .slice (some ⟨q, 0, none⟩) 1 c]).run Tryd.prog W = .ok v' w' ∧ Sr w0 w' v' (l ++ [s]) := by
  obtain ⟨i0, hi, hz0, hz1, hz2⟩ := info_parts info9
  obtain ⟨v', w', hrun, ho, hgr, hv, _⟩ := app_own W 31 ty 9 i0 (.string ⟨#[]⟩) 1 16 u31 hi hz0 hz1 hz2 rfl (by decide) v l.length (scells l) h.1 ⟨q, 0, none⟩ 1 c (scells [s]) rfl (by
    intro j u hu
    rw [at0, hq.cell]
    match j with
    | 0 => simpa [scells] using hu
    | j + 1 => simp [scells] at hu) (scells_one _) (by unfold maxLen; omega) (by omega)
  refine ⟨v', w', hrun, ⟨by rw [List.length_append, scells_app]; exact ho, h.2.1.grown hgr h.2.1.size h.2.2, fun k hk => ?_⟩⟩
  rcases hv with e | e
  · exact h.2.2 k (e ▸ hk)
  · exact Nat.le_trans h.2.1.size (e k hk)
theorem wp_rec {ops : Array Oper} {rest : List Oper} {o : Oper} {a : Act} {Q : Exit → Act → World → Prop} {w0 W : World} (hgd : o.guard = none) (s x : Operand) (ho : o.op = .call { callee := .builtin .append, args := #[s, x], argTypes := #[31, 31] })
    (v : Value) (l : List Bs) (q c : Nat) (b : Bs) (hs : a.eval s = v) (hx : a.eval x = .slice (some ⟨q, 0, none⟩) 1 c) (hI : Sr w0 W v l) (hq : Bk 9 W q #[.string ⟨b.toArray⟩]) (hl : l.length + 1 ≤ 4194304)
    (h : ∀ v' w', Sr w0 w' v' (l ++ [b]) → wpList Tryd.prog ops Q rest (a.put o.dst v') w') : wpList Tryd.prog ops Q (o :: rest) a W := by
  obtain ⟨v', w', hrun, hu⟩ := hI.more o.type q c b hq hl
  exact Lib.wpList_append_run W hgd s x 31 31 ho _ _ hs hx v' w' hrun (h v' w' hu)
theorem recs_len : ∀ (k : Nat) (s : Bs), s.length ≤ k → 8 * (recs k s).1.length + (recs k s).2.length ≤ s.length
  | 0, s, h => by simp [recs]
  | k + 1, s, h => by
    unfold recs
    cases hu : unframed s 65536 with
    | none => simp
    | some x =>
      obtain ⟨r, b⟩ := x
      have := unframed_len hu
      have := recs_len k b (by omega)
      simp only [List.length_cons]
      omega
def textOf : Value → ByteArray | .string s => s | _ => ByteArray.empty
set_option maxHeartbeats 16000000 in
theorem records_any (l : Bs) (hl : l.length ≤ 1048576) (w : World) (hT : Tb w) :
    Calls Tryd.prog 68 #[.string ⟨l.toArray⟩] w fun e w' => ∃ v, e = .returned (.tuple #[v, .int .i64 ((recsOf l).2.length : Int)]) ∧ Sr w w' v (recsOf l).1 := by
  have HT := Lib.hid hT
  obtain ⟨R, hR⟩ : ∃ R, R = recsOf l := ⟨_, rfl⟩
  have hlen : 8 * R.1.length + R.2.length ≤ 1048576 := by rw [hR]; exact Nat.le_trans (recs_len _ _ (Nat.le_refl _)) hl
  rw [← hR]
  have HR := Lib.hid hR
  have HLN := Lib.hid hlen
  clear hT hR hlen
  go_enter Tryd.func68, Tryd.ntmps68
  go_wp2_with fail
  go_loopw [0, 2] (fun sv rv wr => ∃ (s : Bs) (done : List Bs), sv = .string ⟨s.toArray⟩ ∧ s.length ≤ 1048576 ∧ Sr w wr rv done ∧ R = (done ++ (recsOf s).1, (recsOf s).2)) (fun sv _ _ => (textOf sv).size)
  case atStart => exact ⟨l, [], rfl, hl, Sr.nil w, by rw [HR.out]; rfl⟩
  case round =>
    obtain ⟨s, done, rfl, hs, hsr, hrec⟩ := hrel
    have HS := Lib.hid hsr
    have HE := Lib.hid hrec
    clear hsr hrec HR
    go_wp2_with fail
    refine (unframed_any s 65536 hs wr (HT.out.below HS.out.2.1)).mono ?_
    rintro e w1 ⟨rfl, hb⟩
    replace HS := Lib.hid (HS.out.down hb)
    clear hb
    cases hu : unframed s 65536 with
    | none =>
      have hrn := recsOf_none hu
      rw [hrn] at HE
      have hR2 : Hid (R.2.length = s.length) := Lib.hid (by rw [HE.out])
      have hR1 : Hid (R.1 = done) := Lib.hid (by rw [HE.out]; simp)
      unfold ufV
      clear hu hrn HE HLN HT
      go_wp2_with fail
      go_returns
      exact ⟨_, by rw [hR2.out]; rfl, by rw [hR1.out]; exact HS.out⟩
    | some x =>
      obtain ⟨r, b⟩ := x
      have hrs := recsOf_some hu
      have hul := unframed_len hu
      rw [hrs] at HE
      have hE2 : R = ((done ++ [r]) ++ (recsOf b).1, (recsOf b).2) := by rw [HE.out]; simp
      have hdl : done.length + 1 ≤ 4194304 := by
        have h1 := HLN.out
        rw [hE2] at h1
        simp only [List.length_append, List.length_cons, List.length_nil] at h1
        omega
      replace HE := Lib.hid hE2
      have HUL := Lib.hid hul
      unfold ufV
      clear hu hrs hul hE2 HLN
      go_wp2_with (at_builtin; refine wp_rec rfl _ _ rfl _ done w1.heap.size 1 r rfl rfl (HS.out.down (by go_grown)) (Bk.new rfl) hdl ?_; intro v' w2 hs2; replace HS := Lib.hid hs2; clear hs2)
      go_roundw
      case rel => exact ⟨b, done ++ [r], rfl, by have := HUL.out; omega, HS.out, HE.out⟩
      case measure => have := HUL.out; simp [textOf, size_ba]; omega
theorem must_yes (w : World) : Calls Tryd.prog 74 #[.int .i64 0] w fun e w' => e = .returned (.tuple #[]) ∧ w = w' := by
  go_enter Tryd.func74, Tryd.ntmps74
  go_wp2
  go_end0
  exact ⟨rfl, rfl⟩
def gaveUp (n : Nat) : Ending := .panicked [{ v := .iface 28 (.int .i64 (n : Int)), recovered := false }]
theorem must_no (n : Nat) (h : n ≠ 0) (w : World) : Calls Tryd.prog 74 #[.int .i64 (n : Int)] w fun e w' => e = gaveUp n ∧ w = w' := by
  have h1 : ((n : Int) != 0) = true := by simp; omega
  unfold gaveUp
  clear h
  go_enter Tryd.func74, Tryd.ntmps74
  go_wp2
  exact ⟨rfl, rfl, rfl⟩
def endOf (n : Nat) : Ending := if n = 0 then .returned (.tuple #[]) else gaveUp n
theorem endOf_no {n : Nat} (h : n ≠ 0) : endOf n = .panicked [{ v := .iface 28 (.int .i64 (n : Int)), recovered := false }] := by rw [endOf, if_neg h]; rfl
theorem must_any (n : Nat) (w : World) : Calls Tryd.prog 74 #[.int .i64 (n : Int)] w fun e w' => e = endOf n ∧ w = w' := by
  by_cases h : n = 0
  · subst h; exact must_yes w
  · rw [endOf, if_neg h]; exact must_no n h w
theorem Tb.only {w w' : World} {L : List Nat} (h : Tb w) (ho : Only L w w') (hL : 0 ∉ L) : Tb w' := by
  refine ⟨Nat.lt_of_lt_of_le h.1 ho.size, fun i hi => ?_⟩
  rw [← h.2 i hi]
  unfold World.cell?
  rw [ho.block 0 h.1 hL]
theorem Mut.trans {w0 w1 w2 : World} {p p1 p2 : Fp} {S1 S2 : St} (h : Mut w0 p w1 p1 S1) (k : Mut w1 p1 w2 p2 S2) : Mut w0 p w2 p2 S2 := by
  refine ⟨k.1, k.2.1.trans h.2.1, h.2.2.1.trans k.2.2.1 h.2.2.2, fun x hx => ?_⟩
  rcases k.2.2.2 x hx with h1 | h1
  · exact h.2.2.2 x h1
  · exact .inr (Nat.le_trans h.2.2.1.size h1)
theorem Mut.of_below {w0 w1 w2 : World} {p p2 : Fp} {S2 : St} (hb : Below w0.heap.size w0 w1) (k : Mut w1 p w2 p2 S2) : Mut w0 p w2 p2 S2 :=
  ⟨k.1, k.2.1, (Only.of (L := p.own) hb).trans k.2.2.1 fun x hx => .inl hx, fun x hx => (k.2.2.2 x hx).imp id fun h => Nat.le_trans hb.size h⟩
theorem Mut.then_below {w0 w1 w2 : World} {p p1 : Fp} {S1 : St} (h : Mut w0 p w1 p1 S1) (hb : Below w1.heap.size w1 w2) : Mut w0 p w2 p1 S1 :=
  ⟨h.1.below hb, h.2.1, h.2.2.1.trans (Only.of (L := []) hb) (fun x hx => by simp at hx), h.2.2.2⟩
theorem Mut.refl {w w1 : World} {p : Fp} {S : St} (h : Dk w p S) (hb : Below w.heap.size w w1) : Mut w p w1 p S :=
  ⟨h.below hb, rfl, Only.of hb, fun x hx => .inl hx⟩
theorem Mut.zero {w w1 : World} {p p1 : Fp} {S : St} (h : Mut w p w1 p1 S) (hz : 0 ∉ p.own) (hw : 0 < w.heap.size) : 0 ∉ p1.own := fun hx => (h.2.2.2 0 hx).elim hz (by omega)
theorem Mut.tb {w w1 : World} {p p1 : Fp} {S : St} (h : Mut w p w1 p1 S) (hT : Tb w) (hz : 0 ∉ p.own) : Tb w1 := hT.only h.2.2.1 hz
theorem Mut.v {w w1 : World} {p p1 : Fp} {S : St} (h : Mut w p w1 p1 S) : p1.v = p.v := by unfold Fp.v; rw [h.2.1]
theorem fileOf_len (g : Nat) (l : Bs) : (fileOf g l).length = 20 + l.length := by simp [fileOf, mark, be_len, frame_len]; omega
set_option maxHeartbeats 16000000 in
theorem lay_any (p : Fp) (S : St) (f g : Nat) (hg : g ≤ 4611686018427387904) (l : Bs) (hl : l.length ≤ 524288) (w : World) (hT : Tb w) (hD : Dk w p S) (hz : 0 ∉ p.own) :
    Calls Tryd.prog 44 #[p.v, .int .i64 (f : Int), .int .i64 (g : Int), .string ⟨l.toArray⟩] w fun e w' => e = endOf (lays S f g l).1 ∧ ∃ p', Mut w p w' p' (lays S f g l).2 := by
  have HF := Lib.hid (fileOf_any g hg l (by omega) w hT)
  have hfl := fileOf_len g l
  have HA : Hid (∀ w1, Below w.heap.size w w1 → Calls Tryd.prog 75 #[p.v, .int .i64 (f : Int), .string ⟨(fileOf g l).toArray⟩] w1 fun e w' => e = .returned (.int .i64 ((S.append f (fileOf g l)).1 : Int)) ∧ ∃ p', Mut w p w' p' (S.append f (fileOf g l)).2) := Lib.hid fun w1 hb => by
    have := append_any p S f ⟨(fileOf g l).toArray⟩ (by rw [size_ba]; omega) w1 (hD.below hb)
    simp only [List.toList_toArray] at this
    refine this.mono ?_
    rintro e w2 ⟨rfl, p', hm⟩
    exact ⟨rfl, p', hm.of_below hb⟩
  unfold lays
  generalize hr1 : S.append f (fileOf g l) = r1 at *
  obtain ⟨c1, S1⟩ := r1
  have HT := Lib.hid hT
  have HZ := Lib.hid hz
  clear hr1 hT hz hfl hl hg hD
  generalize fileOf g l = fl at *
  by_cases h1 : c1 = 0
  · subst h1
    simp only [if_true]
    obtain ⟨r2, hr2⟩ : ∃ r, r = S1.sync := ⟨_, rfl⟩
    rw [← hr2]
    have HR2 := Lib.hid hr2
    clear hr2
    obtain ⟨pv, hpv⟩ : ∃ v, v = p.v := ⟨_, rfl⟩
    rw [← hpv] at HA ⊢
    have HPV := Lib.hid hpv
    clear hpv
    go_enter Tryd.func44, Tryd.ntmps44
    go_wp2_with fail
    refine HF.out.mono ?_
    rintro e w1 ⟨rfl, hb1⟩
    have HB1 := Lib.hid hb1; clear hb1
    go_wp2_with fail
    refine (HA.out w1 HB1.out).mono ?_
    rintro e w2 ⟨rfl, p2, hm2⟩
    have HM2 := Lib.hid hm2; clear hm2
    go_wp2_with fail
    refine (must_yes _).mono ?_
    rintro e w3 ⟨rfl, rfl⟩
    go_wp2_with fail
    have hs := sync_any p2 S1 w2 HM2.out.1
    rw [HM2.out.v, ← HPV.out, ← HR2.out] at hs
    refine hs.mono ?_
    rintro e w3 ⟨rfl, p3, hm3⟩
    have HM3 := Lib.hid (HM2.out.trans hm3)
    clear hm3 hs
    go_wp2_with fail
    obtain ⟨c2, S2⟩ := r2
    simp only
    refine (must_any c2 _).mono ?_
    rintro e w4 ⟨rfl, rfl⟩
    by_cases h2 : c2 = 0
    · subst h2
      rw [endOf, if_pos rfl]
      go_wp2_with fail
      go_end0
      exact ⟨rfl, p3, HM3.out⟩
    · rw [endOf, if_neg h2]
      unfold gaveUp
      go_wp2_with fail
      exact ⟨rfl, (endOf_no h2).symm, p3, HM3.out⟩
  · rw [if_neg h1]
    obtain ⟨pv, hpv⟩ : ∃ v, v = p.v := ⟨_, rfl⟩
    rw [← hpv] at HA ⊢
    have HPV := Lib.hid hpv
    clear hpv
    go_enter Tryd.func44, Tryd.ntmps44
    go_wp2_with fail
    refine HF.out.mono ?_
    rintro e w1 ⟨rfl, hb1⟩
    have HB1 := Lib.hid hb1; clear hb1
    go_wp2_with fail
    refine (HA.out w1 HB1.out).mono ?_
    rintro e w2 ⟨rfl, p2, hm2⟩
    have HM2 := Lib.hid hm2; clear hm2
    go_wp2_with fail
    refine (must_no c1 h1 _).mono ?_
    rintro e w3 ⟨rfl, rfl⟩
    unfold gaveUp
    go_wp2_with fail
    exact ⟨rfl, (endOf_no h1).symm, p2, HM2.out⟩
set_option maxHeartbeats 16000000 in
theorem wcut_any (p : Fp) (S : St) (f n : Int) (w : World) (hD : Dk w p S) (hc : (S.cut f n).1 ≠ 92) :
    Calls Tryd.prog 69 #[p.v, .int .i64 f, .int .i64 n] w fun e w' => e = endOf (S.cut f n).1 ∧ ∃ p', Mut w p w' p' (S.cut f n).2 := by
  have HA := Lib.hid (cut_any p S f n w hD)
  generalize S.cut f n = r at *
  obtain ⟨c, S1⟩ := r
  simp only at hc
  have h92 : ((c : Int) == 92) = false := by simp; omega
  clear hc hD
  go_enter Tryd.func69, Tryd.ntmps69
  go_wp2_with fail
  refine HA.out.mono ?_
  rintro e w1 ⟨rfl, p1, hm⟩
  have HM := Lib.hid hm; clear hm
  go_wp2_with fail
  refine (must_any c _).mono ?_
  rintro e w2 ⟨rfl, rfl⟩
  by_cases h : c = 0
  · subst h
    rw [endOf, if_pos rfl]
    go_wp2_with fail
    go_end0
    exact ⟨rfl, p1, HM.out⟩
  · rw [endOf, if_neg h]
    unfold gaveUp
    go_wp2_with fail
    exact ⟨rfl, (endOf_no h).symm, p1, HM.out⟩
theorem read_alive (p : Fp) (S : St) (f : Nat) (hf : f < 2) (hg : S.gone = false) (w : World) (h : Dk w p S) :
    Calls Tryd.prog 93 #[p.v, .int .i64 (f : Int)] w fun e w' => e = .returned (.tuple #[.string ⟨(S.file f).toArray⟩, .int .i64 0]) ∧ Below w.heap.size w w' := by
  have := read_any p S f w h
  have ht : St.there (f : Int) = true := by unfold St.there; simp; omega
  have e : S.read (f : Int) = (S.file f, 0) := by unfold St.read; simp [hg, ht]
  rw [e] at this
  exact this
theorem ret_tc115 {fn : Func} {R : Ending → World → Prop} {a : Act} {w : World} {p u : Tmp} (h : fn.results = #[.tmp u, .cell p 115]) (g : Nat) (v x y z : Value) (hv : a.tmps.getD u undef = v) (hp : a.tmps.getD p undef = .pointer (some ⟨g, 0, none⟩)) (hk : Bk 115 w g #[x, y, z]) (hd : a.defers = []) (hR : R (.returned (.tuple #[v, .agg #[x, y, z]])) w) : bodyPost Tryd.prog fn R .ret a w := by
  subst hv
  refine bodyPost_ret (v := .tuple #[a.tmps.getD u undef, .agg #[x, y, z]]) ?_ hd hR
  have hp' : a.tmps[p]?.getD undef = .pointer (some ⟨g, 0, none⟩) := by simpa using hp
  have c0 := hk.cell 0
  have c1 := hk.cell 1
  have c2 := hk.cell 2
  simp only [List.getElem?_toArray, List.getElem?_cons_succ, List.getElem?_cons_zero] at c0 c1 c2
  simp [results, h, hp', asAddr, go_sem, c0, c1, c2]
set_option maxHeartbeats 16000000 in
theorem newest_any (p : Fp) (S : St) (hg : S.gone = false) (w : World) (hT : Tb w) (hD : Dk w p S) :
    Calls Tryd.prog 66 #[p.v] w fun e w' => e = .returned (.tuple #[.int .i64 ((newest S).1 : Int), begV (newest S).2]) ∧ Below w.heap.size w w' := by
  have hl0 : S.f0.length ≤ 1048576 := hD.wf.l0
  have hl1 : S.f1.length ≤ 1048576 := hD.wf.l1
  have HT := Lib.hid hT
  have HD := Lib.hid hD
  unfold newest
  have HR0 : Hid (∀ w1, Below w.heap.size w w1 → Calls Tryd.prog 93 #[p.v, .int .i64 0] w1 fun e w' => e = .returned (.tuple #[.string ⟨S.f0.toArray⟩, .int .i64 0]) ∧ Below w1.heap.size w1 w') := Lib.hid fun w1 hb => read_alive p S 0 (by omega) hg w1 (HD.out.below hb)
  have HR1 : Hid (∀ w1, Below w.heap.size w w1 → Calls Tryd.prog 93 #[p.v, .int .i64 1] w1 fun e w' => e = .returned (.tuple #[.string ⟨S.f1.toArray⟩, .int .i64 0]) ∧ Below w1.heap.size w1 w') := Lib.hid fun w1 hb => read_alive p S 1 (by omega) hg w1 (HD.out.below hb)
  have HB0 := Lib.hid (begin_any S.f0 hl0)
  have HB1 := Lib.hid (begin_any S.f1 hl1)
  generalize begins S.f0 = x0 at *
  generalize begins S.f1 = x1 at *
  obtain ⟨g0, s0, b0⟩ := x0
  obtain ⟨g1, s1, b1⟩ := x1
  clear hT hD hl0 hl1 hg
  generalize p.v = pv at HR0 HR1 ⊢
  go_enter Tryd.func66, Tryd.ntmps66
  go_wp2_with fail
  refine wp_loop_rounds 3 ?_
  have KO : Hid (Bk 115 ((w.alloc (.cells #[.int .i64 0, .string ⟨#[]⟩, .string ⟨#[]⟩] 115)).alloc (.cells #[.int .i64 0, .string ⟨#[]⟩, .string ⟨#[]⟩, .int .i64 0, .string ⟨#[]⟩, .string ⟨#[]⟩] 134)) w.heap.size #[.int .i64 0, .string ⟨#[]⟩, .string ⟨#[]⟩]) := Lib.hid (Bk.alloc (Bk.new rfl))
  have KA : Hid (Bk 134 ((w.alloc (.cells #[.int .i64 0, .string ⟨#[]⟩, .string ⟨#[]⟩] 115)).alloc (.cells #[.int .i64 0, .string ⟨#[]⟩, .string ⟨#[]⟩, .int .i64 0, .string ⟨#[]⟩, .string ⟨#[]⟩] 134)) (w.heap.size + 1) #[.int .i64 0, .string ⟨#[]⟩, .string ⟨#[]⟩, .int .i64 0, .string ⟨#[]⟩, .string ⟨#[]⟩]) := Lib.hid (Bk.new (by simp))
  have HB : Hid (Below w.heap.size w ((w.alloc (.cells #[.int .i64 0, .string ⟨#[]⟩, .string ⟨#[]⟩] 115)).alloc (.cells #[.int .i64 0, .string ⟨#[]⟩, .string ⟨#[]⟩, .int .i64 0, .string ⟨#[]⟩, .string ⟨#[]⟩] 134))) := Lib.hid (by go_grown)
  generalize ((w.alloc (.cells #[.int .i64 0, .string ⟨#[]⟩, .string ⟨#[]⟩] 115)).alloc (.cells #[.int .i64 0, .string ⟨#[]⟩, .string ⟨#[]⟩, .int .i64 0, .string ⟨#[]⟩, .string ⟨#[]⟩] 134)) = wa at KO KA HB ⊢
  rw [rounds_succ]
  go_wp2_with fail
  refine (HR0.out _ HB.out).mono ?_
  rintro e w1 ⟨rfl, hb⟩
  replace KO := Lib.hid (KO.out.below hb)
  replace KA := Lib.hid (KA.out.below hb)
  replace HB := Lib.hid (HB.out.trans (hb.mono HB.out.size))
  clear hb
  go_wp2_with fail
  refine (HB0.out w1 (HT.out.below HB.out)).mono ?_
  rintro e w2 ⟨rfl, hb⟩
  replace KO := Lib.hid (KO.out.below hb)
  replace KA := Lib.hid (KA.out.below hb)
  replace HB := Lib.hid (HB.out.trans (hb.mono HB.out.size))
  clear hb HR0 HB0
  unfold begV
  have c0 := KA.out.cell 0
  have c1 := KA.out.cell 1
  have c2 := KA.out.cell 2
  have f0 := KA.out.fro 0
  have f1 := KA.out.fro 1
  have f2 := KA.out.fro 2
  go_wp2_with fail
  clear c0 c1 c2 f0 f1 f2
  replace KA : Hid (Bk 134 (((w2.setCell ⟨w.heap.size + 1, 0, none⟩ (.int .i64 (g0 : Int))).setCell ⟨w.heap.size + 1, 1, none⟩ (.string ⟨s0.toArray⟩)).setCell ⟨w.heap.size + 1, 2, none⟩ (.string ⟨b0.toArray⟩)) (w.heap.size + 1) #[.int .i64 (g0 : Int), .string ⟨s0.toArray⟩, .string ⟨b0.toArray⟩, .int .i64 0, .string ⟨#[]⟩, .string ⟨#[]⟩]) := Lib.hid (by have := Bk.same (i := 2) (v := .string ⟨b0.toArray⟩) (Bk.same (i := 1) (v := .string ⟨s0.toArray⟩) (Bk.same (i := 0) (v := .int .i64 (g0 : Int)) (KA.out))); simpa using this)
  replace KO : Hid (Bk 115 (((w2.setCell ⟨w.heap.size + 1, 0, none⟩ (.int .i64 (g0 : Int))).setCell ⟨w.heap.size + 1, 1, none⟩ (.string ⟨s0.toArray⟩)).setCell ⟨w.heap.size + 1, 2, none⟩ (.string ⟨b0.toArray⟩)) w.heap.size #[.int .i64 0, .string ⟨#[]⟩, .string ⟨#[]⟩]) := Lib.hid (Bk.oth (by simp) (Bk.oth (by simp) (Bk.oth (by simp) (KO.out))))
  replace HB : Hid (Below w.heap.size w (((w2.setCell ⟨w.heap.size + 1, 0, none⟩ (.int .i64 (g0 : Int))).setCell ⟨w.heap.size + 1, 1, none⟩ (.string ⟨s0.toArray⟩)).setCell ⟨w.heap.size + 1, 2, none⟩ (.string ⟨b0.toArray⟩))) := Lib.hid (Below.setCell (Below.setCell (Below.setCell (HB.out) (by simp) _) (by simp) _) (by simp) _)
  generalize (((w2.setCell ⟨w.heap.size + 1, 0, none⟩ (.int .i64 (g0 : Int))).setCell ⟨w.heap.size + 1, 1, none⟩ (.string ⟨s0.toArray⟩)).setCell ⟨w.heap.size + 1, 2, none⟩ (.string ⟨b0.toArray⟩)) = w3 at KA KO HB ⊢
  rw [rounds_succ]
  go_wp2_with fail
  refine (HR1.out _ HB.out).mono ?_
  rintro e w4 ⟨rfl, hb⟩
  replace KO := Lib.hid (KO.out.below hb)
  replace KA := Lib.hid (KA.out.below hb)
  replace HB := Lib.hid (HB.out.trans (hb.mono HB.out.size))
  clear hb
  go_wp2_with fail
  refine (HB1.out w4 (HT.out.below HB.out)).mono ?_
  rintro e w5 ⟨rfl, hb⟩
  replace KO := Lib.hid (KO.out.below hb)
  replace KA := Lib.hid (KA.out.below hb)
  replace HB := Lib.hid (HB.out.trans (hb.mono HB.out.size))
  clear hb HR1 HB1
  unfold begV
  have c0 := KA.out.cell 3
  have c1 := KA.out.cell 4
  have c2 := KA.out.cell 5
  have f0 := KA.out.fro 3
  have f1 := KA.out.fro 4
  have f2 := KA.out.fro 5
  go_wp2_with fail
  clear c0 c1 c2 f0 f1 f2
  replace KA : Hid (Bk 134 (((w5.setCell ⟨w.heap.size + 1, 3, none⟩ (.int .i64 (g1 : Int))).setCell ⟨w.heap.size + 1, 4, none⟩ (.string ⟨s1.toArray⟩)).setCell ⟨w.heap.size + 1, 5, none⟩ (.string ⟨b1.toArray⟩)) (w.heap.size + 1) #[.int .i64 (g0 : Int), .string ⟨s0.toArray⟩, .string ⟨b0.toArray⟩, .int .i64 (g1 : Int), .string ⟨s1.toArray⟩, .string ⟨b1.toArray⟩]) := Lib.hid (by have := Bk.same (i := 5) (v := .string ⟨b1.toArray⟩) (Bk.same (i := 4) (v := .string ⟨s1.toArray⟩) (Bk.same (i := 3) (v := .int .i64 (g1 : Int)) (KA.out))); simpa using this)
  replace KO : Hid (Bk 115 (((w5.setCell ⟨w.heap.size + 1, 3, none⟩ (.int .i64 (g1 : Int))).setCell ⟨w.heap.size + 1, 4, none⟩ (.string ⟨s1.toArray⟩)).setCell ⟨w.heap.size + 1, 5, none⟩ (.string ⟨b1.toArray⟩)) w.heap.size #[.int .i64 0, .string ⟨#[]⟩, .string ⟨#[]⟩]) := Lib.hid (Bk.oth (by simp) (Bk.oth (by simp) (Bk.oth (by simp) (KO.out))))
  replace HB : Hid (Below w.heap.size w (((w5.setCell ⟨w.heap.size + 1, 3, none⟩ (.int .i64 (g1 : Int))).setCell ⟨w.heap.size + 1, 4, none⟩ (.string ⟨s1.toArray⟩)).setCell ⟨w.heap.size + 1, 5, none⟩ (.string ⟨b1.toArray⟩))) := Lib.hid (Below.setCell (Below.setCell (Below.setCell (HB.out) (by simp) _) (by simp) _) (by simp) _)
  generalize (((w5.setCell ⟨w.heap.size + 1, 3, none⟩ (.int .i64 (g1 : Int))).setCell ⟨w.heap.size + 1, 4, none⟩ (.string ⟨s1.toArray⟩)).setCell ⟨w.heap.size + 1, 5, none⟩ (.string ⟨b1.toArray⟩)) = w6 at KA KO HB ⊢
  rw [rounds_succ]
  have a0 := KA.out.cell 0
  have a1 := KA.out.cell 1
  have a2 := KA.out.cell 2
  have a3 := KA.out.cell 3
  have a4 := KA.out.cell 4
  have a5 := KA.out.cell 5
  have k0 := KO.out.cell 0
  have k1 := KO.out.cell 1
  have k2 := KO.out.cell 2
  have f0 := KO.out.fro 0
  have f1 := KO.out.fro 1
  have f2 := KO.out.fro 2
  simp only [List.getElem?_toArray, List.getElem?_cons_succ, List.getElem?_cons_zero] at a0 a1 a2 a3 a4 a5 k0 k1 k2
  by_cases h : g1 > g0
  · have hd : decide ((g0 : Int) < (g1 : Int)) = true := by simp; omega
    have hdn : decide (g0 < g1) = true := by simp; omega
    have HH : Hid (g1 > g0) := Lib.hid h
    clear h
    go_wp2_with fail
    go_region
    all_goals
      clear a0 a1 a2 a3 a4 a5 k0 k1 k2 f0 f1 f2
      go_wp2_with fail
      refine ret_tc115 rfl w.heap.size (.int .i64 1) (.int .i64 (g1 : Int)) (.string ⟨s1.toArray⟩) (.string ⟨b1.toArray⟩) rfl rfl KO.out.put3.drew rfl ⟨?_, (below_put3 HB.out (Nat.le_refl _)).drew⟩
      first | rfl | (rw [if_pos HH.out]; rfl)
  · have hd : decide ((g0 : Int) < (g1 : Int)) = false := by simp; omega
    have hdn : decide (g0 < g1) = false := by simp; omega
    have HH : Hid (¬ g1 > g0) := Lib.hid h
    clear h
    go_wp2_with fail
    go_region
    all_goals
      clear a0 a1 a2 a3 a4 a5 k0 k1 k2 f0 f1 f2
      go_wp2_with fail
      refine ret_tc115 rfl w.heap.size (.int .i64 0) (.int .i64 (g0 : Int)) (.string ⟨s0.toArray⟩) (.string ⟨b0.toArray⟩) rfl rfl KO.out.put3.drew rfl ⟨?_, (below_put3 HB.out (Nat.le_refl _)).drew⟩
      first | rfl | (rw [if_neg HH.out]; rfl)
end Go.Proofs.YtmoihgniglomiaaDoor
