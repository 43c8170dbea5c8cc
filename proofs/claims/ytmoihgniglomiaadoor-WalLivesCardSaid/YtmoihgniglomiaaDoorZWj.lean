/- A file's beginning: the program's way. Condition: the program's table. -/
import Derived.Test.YtmoihgniglomiaaDoorZWh
set_option linter.unusedVariables false
set_option linter.unusedSimpArgs false
set_option maxRecDepth 100000
namespace Go.Proofs.YtmoihgniglomiaaDoor
open Go.RowKit Go.Sort

theorem i115 : (Tryd.prog.info? 115).map (·.size) = some 3 := by kernel_rfl
theorem ret_cell115 {fn : Func} {R : Ending → World → Prop} {a : Act} {w : World} {p : Tmp} (h : fn.results = #[.cell p 115]) (g : Nat) (x y z : Value) (hp : a.tmps.getD p undef = .pointer (some ⟨g, 0, none⟩)) (hk : Bk 115 w g #[x, y, z]) (hd : a.defers = []) (hR : R (.returned (.agg #[x, y, z])) w) : bodyPost Tryd.prog fn R .ret a w := by
  exact bodyPost_ret (v := .agg #[x, y, z]) (results_cell_row h a.tmps w g 115 #[x, y, z] (0, 0) _ hp hk Tryd.underlying115 rfl i115) hd hR
/-- a store of a whole beginning -/
theorem Bk.put3 {t : TypeId} {w : World} {g : Nat} {a b c x y z : Value} (h : Bk t w g #[a, b, c]) : Bk t (((w.setCell ⟨g, 0, none⟩ x).setCell ⟨g, 1, none⟩ y).setCell ⟨g, 2, none⟩ z) g #[x, y, z] := by
  have := Bk.same (i := 2) (v := z) (Bk.same (i := 1) (v := y) (Bk.same (i := 0) (v := x) h))
  simpa using this
theorem below_put3 {B : Nat} {a w : World} {g : Nat} {x y z : Value} (h : Below B a w) (hg : B ≤ g) : Below B a (((w.setCell ⟨g, 0, none⟩ x).setCell ⟨g, 1, none⟩ y).setCell ⟨g, 2, none⟩ z) := ((h.setCell hg _).setCell hg _).setCell hg _
theorem prefix_take (l m : Bs) (h : m.length = 4) : Lib.hasPrefix l m = decide (l.take 4 = m) := by
  unfold Lib.hasPrefix
  rw [Bool.eq_iff_iff, List.isPrefixOf_iff_prefix, decide_eq_true_eq, ← h]
  constructor
  · intro hp; exact (List.prefix_iff_eq_take.1 hp).symm
  · intro hp; rw [← hp]; exact List.take_prefix _ _
def begV (x : Nat × Bs × Bs) : Value := .agg #[.int .i64 (x.1 : Int), .string ⟨x.2.1.toArray⟩, .string ⟨x.2.2.toArray⟩]
theorem begV0 : begV (0, [], []) = .agg #[.int .i64 0, .string ⟨#[]⟩, .string ⟨#[]⟩] := rfl
theorem valN_8 (l : Bs) (h : l.length = 8) : valN l = valN (l.take 4) * 4294967296 + valN (l.drop 4) := by
  have h1 : l.take 4 ++ l.drop 4 = l := List.take_append_drop 4 l
  have key : ∀ (b : Bs) (n : Nat), b.foldl (fun n x => 256 * n + x.toNat) n = n * 256 ^ b.length + valN b := by
    intro b
    induction b with
    | nil => intro n; simp [valN]
    | cons x b ih =>
      intro n
      simp only [List.foldl_cons, valN, List.length_cons, Nat.mul_zero, Nat.zero_add]
      rw [ih, ih x.toNat, Nat.pow_succ, Nat.add_mul]
      have : 256 * n * 256 ^ b.length = n * (256 ^ b.length * 256) := by ac_rfl
      omega
  conv => lhs; rw [← h1, valN_app, key]
  rw [List.length_drop, h]
set_option maxHeartbeats 16000000 in
theorem begin_mark (l : Bs) (hl : l.length ≤ 1048576) (hm : l.take 4 ≠ mark) (w : World) (hT : Tb w) :
    Calls Tryd.prog 94 #[.string ⟨l.toArray⟩] w fun e w' => e = .returned (.agg #[.int .i64 0, .string ⟨#[]⟩, .string ⟨#[]⟩]) ∧ Below w.heap.size w w' := by
  have HT := Lib.hid hT
  have hw0 : Below w.heap.size w (w.alloc (.cells #[.int .i64 0, .string ⟨#[]⟩, .string ⟨#[]⟩] 115)) := (Below.refl _ _).alloc (Nat.le_refl _) _
  have HW := Lib.hid hw0
  have HN : Hid (Bk 115 (w.alloc (.cells #[.int .i64 0, .string ⟨#[]⟩, .string ⟨#[]⟩] 115)) w.heap.size #[.int .i64 0, .string ⟨#[]⟩, .string ⟨#[]⟩]) := Lib.hid (Bk.new rfl)
  have HP := Lib.hid (fun w1 : World => Tryd.strings_CutPrefix ⟨l.toArray⟩ ⟨#[83, 78, 76, 49]⟩ w1)
  have hpr : Lib.hasPrefix l [83, 78, 76, 49] = false := by rw [prefix_take _ _ rfl]; simpa [mark] using hm
  have htr : Lib.trimPrefix l [83, 78, 76, 49] = l := by unfold Lib.trimPrefix; rw [hpr]; simp
  simp only [List.toList_toArray] at HP
  rw [hpr, htr] at HP
  clear hpr htr hT hw0
  go_enter Tryd.func94, Tryd.ntmps94
  go_wp2_with fail
  refine (HP.out _).mono ?_
  rintro e w1 ⟨rfl, rfl⟩
  go_wp2_with fail
  refine ret_cell115 rfl w.heap.size (.int .i64 0) (.string ⟨#[]⟩) (.string ⟨#[]⟩) rfl (by first | exact HN.out | exact HN.out.put3) rfl ⟨rfl, ?_⟩
  first | exact HW.out | exact below_put3 HW.out (Nat.le_refl _)
set_option maxHeartbeats 16000000 in
theorem begin_short (l : Bs) (hl : l.length ≤ 1048576) (hm : l.take 4 = mark) (h : l.length < 12) (w : World) (hT : Tb w) :
    Calls Tryd.prog 94 #[.string ⟨l.toArray⟩] w fun e w' => e = .returned (.agg #[.int .i64 0, .string ⟨#[]⟩, .string ⟨#[]⟩]) ∧ Below w.heap.size w w' := by
  have HT := Lib.hid hT
  have hw0 : Below w.heap.size w (w.alloc (.cells #[.int .i64 0, .string ⟨#[]⟩, .string ⟨#[]⟩] 115)) := (Below.refl _ _).alloc (Nat.le_refl _) _
  have HW := Lib.hid hw0
  have HN : Hid (Bk 115 (w.alloc (.cells #[.int .i64 0, .string ⟨#[]⟩, .string ⟨#[]⟩] 115)) w.heap.size #[.int .i64 0, .string ⟨#[]⟩, .string ⟨#[]⟩]) := Lib.hid (Bk.new rfl)
  have HP := Lib.hid (fun w1 : World => Tryd.strings_CutPrefix ⟨l.toArray⟩ ⟨#[83, 78, 76, 49]⟩ w1)
  have hpr : Lib.hasPrefix l [83, 78, 76, 49] = true := by rw [prefix_take _ _ rfl]; simpa [mark] using hm
  have htr : Lib.trimPrefix l [83, 78, 76, 49] = l.drop 4 := by unfold Lib.trimPrefix; rw [hpr]; simp
  simp only [List.toList_toArray] at HP
  rw [hpr, htr] at HP
  clear hpr htr hT hw0
  obtain ⟨n, hn⟩ : ∃ n, n = l.length := ⟨_, rfl⟩
  have hz4 : (⟨(l.drop 4).toArray⟩ : ByteArray).size = n - 4 := by rw [size_ba, List.length_drop, hn]
  have hz4b : (l.drop 4).length = n - 4 := by rw [List.length_drop, hn]
  have hs : decide (((n - 4 : Nat) : Int) < 8) = true := by simp; omega
  have hsn : decide (n - 4 < 8) = true := by simp; omega
  generalize n - 4 = k at *
  generalize l.drop 4 = q at *
  clear hl hm hn
  go_enter Tryd.func94, Tryd.ntmps94
  go_wp2_with fail
  refine (HP.out _).mono ?_
  rintro e w1 ⟨rfl, rfl⟩
  go_wp2_with fail
  refine ret_cell115 rfl w.heap.size (.int .i64 0) (.string ⟨#[]⟩) (.string ⟨#[]⟩) rfl (by first | exact HN.out | exact HN.out.put3) rfl ⟨rfl, ?_⟩
  first | exact HW.out | exact below_put3 HW.out (Nat.le_refl _)
set_option maxHeartbeats 16000000 in
theorem begin_nong (l : Bs) (hl : l.length ≤ 1048576) (hm : l.take 4 = mark) (h : ¬ l.length < 12) (hu : unframed (l.drop 12) 524288 = none) (hg : ¬ valN ((l.drop 4).take 8) ≤ 4611686018427387904) (w : World) (hT : Tb w) :
    Calls Tryd.prog 94 #[.string ⟨l.toArray⟩] w fun e w' => e = .returned (.agg #[.int .i64 0, .string ⟨#[]⟩, .string ⟨#[]⟩]) ∧ Below w.heap.size w w' := by
  have HT := Lib.hid hT
  have hw0 : Below w.heap.size w (w.alloc (.cells #[.int .i64 0, .string ⟨#[]⟩, .string ⟨#[]⟩] 115)) := (Below.refl _ _).alloc (Nat.le_refl _) _
  have HW := Lib.hid hw0
  have HN : Hid (Bk 115 (w.alloc (.cells #[.int .i64 0, .string ⟨#[]⟩, .string ⟨#[]⟩] 115)) w.heap.size #[.int .i64 0, .string ⟨#[]⟩, .string ⟨#[]⟩]) := Lib.hid (Bk.new rfl)
  have HP := Lib.hid (fun w1 : World => Tryd.strings_CutPrefix ⟨l.toArray⟩ ⟨#[83, 78, 76, 49]⟩ w1)
  have hpr : Lib.hasPrefix l [83, 78, 76, 49] = true := by rw [prefix_take _ _ rfl]; simpa [mark] using hm
  have htr : Lib.trimPrefix l [83, 78, 76, 49] = l.drop 4 := by unfold Lib.trimPrefix; rw [hpr]; simp
  simp only [List.toList_toArray] at HP
  rw [hpr, htr] at HP
  clear hpr htr hT hw0
  obtain ⟨n, hn⟩ : ∃ n, n = l.length := ⟨_, rfl⟩
  have hz4 : (⟨(l.drop 4).toArray⟩ : ByteArray).size = n - 4 := by rw [size_ba, List.length_drop, hn]
  have hz4b : (l.drop 4).length = n - 4 := by rw [List.length_drop, hn]
  have hs : decide (((n - 4 : Nat) : Int) < 8) = false := by simp; omega
  have hsn : decide (n - 4 < 8) = false := by simp; omega
  have hs8 : (8 : Int) ≤ ((n - 4 : Nat) : Int) := by omega
  have x4 : (⟨(l.drop 4).toArray⟩ : ByteArray).extract 0 4 = ⟨((l.drop 4).take 4).toArray⟩ := by rw [ba_extract]; simp
  have x48 : (⟨(l.drop 4).toArray⟩ : ByteArray).extract 4 8 = ⟨(((l.drop 4).drop 4).take 4).toArray⟩ := ba_extract _ _ _
  have x8 : (⟨(l.drop 4).toArray⟩ : ByteArray).extract 8 (n - 4) = ⟨(l.drop 12).toArray⟩ := by rw [ba_extract, List.take_of_length_le (by rw [List.length_drop, List.length_drop]; omega), List.drop_drop]
  have H1 : Hid (∀ (w1 : World) d os, Calls Tryd.prog 106 #[.string ⟨((l.drop 4).take 4).toArray⟩] (grow (redrawn w1 d) os) fun e w'' => e = .returned (.int .u32 (valN ((l.drop 4).take 4) : Int)) ∧ ∃ p : Regrown, w'' = grow (redrawn w1 p.d) p.os) := Lib.hid fun w1 d os => Calls.grown (number_any _ (by rw [List.length_take]; omega) _)
  have H2 : Hid (∀ (w1 : World) d os, Calls Tryd.prog 106 #[.string ⟨(((l.drop 4).drop 4).take 4).toArray⟩] (grow (redrawn w1 d) os) fun e w'' => e = .returned (.int .u32 (valN (((l.drop 4).drop 4).take 4) : Int)) ∧ ∃ p : Regrown, w'' = grow (redrawn w1 p.d) p.os) := Lib.hid fun w1 d os => Calls.grown (number_any _ (by rw [List.length_take]; omega) _)
  have HU := Lib.hid (unframed_any (l.drop 12) 524288 (by rw [List.length_drop]; omega))
  have hv1 : valN ((l.drop 4).take 4) < 4294967296 := valN4 _ (by rw [List.length_take]; omega)
  have hv2 : valN (((l.drop 4).drop 4).take 4) < 4294967296 := valN4 _ (by rw [List.length_take]; omega)
  have hv : valN ((l.drop 4).take 8) = valN ((l.drop 4).take 4) * 4294967296 + valN (((l.drop 4).drop 4).take 4) := by
    rw [valN_8 _ (by rw [List.length_take, List.length_drop]; omega), List.take_take, List.drop_take]
    rfl
  have hor : bits .or .u64 ((valN ((l.drop 4).take 4) : Int) * 4294967296) (valN (((l.drop 4).drop 4).take 4) : Int) = (valN ((l.drop 4).take 8) : Int) := by
    rw [show ((valN ((l.drop 4).take 4) : Int) * 4294967296) = ((valN ((l.drop 4).take 4) * 4294967296 : Nat) : Int) by omega, u64_or_nat _ _ (by omega) (by omega), nat_join 32 _ _ (by omega) (by omega), hv]
  rw [hu] at HU
  generalize valN ((l.drop 4).take 8) = v at *
  generalize valN ((l.drop 4).take 4) = v1 at *
  generalize valN (((l.drop 4).drop 4).take 4) = v2 at *
  generalize (l.drop 4).take 4 = q1 at *
  generalize ((l.drop 4).drop 4).take 4 = q2 at *
  generalize l.drop 12 = q3 at *
  generalize n - 4 = k at *
  generalize l.drop 4 = q at *
  have hi1 : (0 : Int) ≤ v1 := by omega
  have hi2 : (v1 : Int) < 4294967296 := by omega
  have hi3 : (0 : Int) ≤ v2 := by omega
  have hi4 : (v2 : Int) < 4294967296 := by omega
  have hi5 : (0 : Int) ≤ v := by omega
  have hi6 : (v : Int) < 18446744073709551616 := by omega
  have hd : decide ((4611686018427387904 : Int) < (v : Int)) = true := by simp; omega
  have hdn : decide (4611686018427387904 < v) = true := by simp; omega
  clear hl hm hn hv
  go_enter Tryd.func94, Tryd.ntmps94
  go_wp2_with fail
  refine (HP.out _).mono ?_
  rintro e w1 ⟨rfl, rfl⟩
  go_wp2_with fail
  generalize (w.alloc (.cells #[.int .i64 0, .string ⟨#[]⟩, .string ⟨#[]⟩] 115)) = w1 at HW HN ⊢
  replace H1 := Lib.hid (H1.out w1)
  replace H2 := Lib.hid (H2.out w1)
  refine wp_region_quiet_below mixed (by kernel_rfl) ?_
  repeat (first | go_big_quiet_step (first | (with_reducible exact H1.out _ _) | (with_reducible exact H2.out _ _)) | quiet_step (first | (with_reducible exact H1.out _ _) | (with_reducible exact H2.out _ _)))
  refine wpQuiet_nil ?_
  intro _ hw'
  obtain ⟨⟨dq, osq⟩, hw''⟩ := hw'
  subst hw''
  have hb2 := below_regrown w1 dq osq
  replace HN := Lib.hid (HN.out.below hb2)
  replace HW := Lib.hid (HW.out.trans (hb2.mono HW.out.size))
  generalize grow (redrawn w1 dq) osq = w2 at HN HW ⊢
  clear hb2 H1 H2
  go_wp2_with fail
  refine (HU.out w2 (HT.out.below HW.out)).mono ?_
  rintro e w3 ⟨rfl, hb3⟩
  replace HN := Lib.hid (HN.out.below hb3)
  replace HW := Lib.hid (HW.out.trans (hb3.mono HW.out.size))
  clear hb3 HT HU HP
  unfold ufV
  obtain ⟨i0, i1, i2, -⟩ : w3.cell? ⟨w.heap.size, 0, none⟩ = some (.int .i64 0) ∧ w3.cell? ⟨w.heap.size, 1, none⟩ = some (.string ⟨#[]⟩) ∧ w3.cell? ⟨w.heap.size, 2, none⟩ = some (.string ⟨#[]⟩) ∧ True := ⟨HN.out.cell 0, HN.out.cell 1, HN.out.cell 2, trivial⟩
  have f0 := HN.out.fro 0
  have f1 := HN.out.fro 1
  have f2 := HN.out.fro 2
  go_wp2_with fail
  refine ret_cell115 rfl w.heap.size (.int .i64 0) (.string ⟨#[]⟩) (.string ⟨#[]⟩) rfl (by first | exact HN.out | exact HN.out.put3) rfl ⟨rfl, ?_⟩
  first | exact HW.out | exact below_put3 HW.out (Nat.le_refl _)
set_option maxHeartbeats 16000000 in
theorem begin_nono (l : Bs) (hl : l.length ≤ 1048576) (hm : l.take 4 = mark) (h : ¬ l.length < 12) (hu : unframed (l.drop 12) 524288 = none) (hg : valN ((l.drop 4).take 8) ≤ 4611686018427387904) (w : World) (hT : Tb w) :
    Calls Tryd.prog 94 #[.string ⟨l.toArray⟩] w fun e w' => e = .returned (.agg #[.int .i64 0, .string ⟨#[]⟩, .string ⟨#[]⟩]) ∧ Below w.heap.size w w' := by
  have HT := Lib.hid hT
  have hw0 : Below w.heap.size w (w.alloc (.cells #[.int .i64 0, .string ⟨#[]⟩, .string ⟨#[]⟩] 115)) := (Below.refl _ _).alloc (Nat.le_refl _) _
  have HW := Lib.hid hw0
  have HN : Hid (Bk 115 (w.alloc (.cells #[.int .i64 0, .string ⟨#[]⟩, .string ⟨#[]⟩] 115)) w.heap.size #[.int .i64 0, .string ⟨#[]⟩, .string ⟨#[]⟩]) := Lib.hid (Bk.new rfl)
  have HP := Lib.hid (fun w1 : World => Tryd.strings_CutPrefix ⟨l.toArray⟩ ⟨#[83, 78, 76, 49]⟩ w1)
  have hpr : Lib.hasPrefix l [83, 78, 76, 49] = true := by rw [prefix_take _ _ rfl]; simpa [mark] using hm
  have htr : Lib.trimPrefix l [83, 78, 76, 49] = l.drop 4 := by unfold Lib.trimPrefix; rw [hpr]; simp
  simp only [List.toList_toArray] at HP
  rw [hpr, htr] at HP
  clear hpr htr hT hw0
  obtain ⟨n, hn⟩ : ∃ n, n = l.length := ⟨_, rfl⟩
  have hz4 : (⟨(l.drop 4).toArray⟩ : ByteArray).size = n - 4 := by rw [size_ba, List.length_drop, hn]
  have hz4b : (l.drop 4).length = n - 4 := by rw [List.length_drop, hn]
  have hs : decide (((n - 4 : Nat) : Int) < 8) = false := by simp; omega
  have hsn : decide (n - 4 < 8) = false := by simp; omega
  have hs8 : (8 : Int) ≤ ((n - 4 : Nat) : Int) := by omega
  have x4 : (⟨(l.drop 4).toArray⟩ : ByteArray).extract 0 4 = ⟨((l.drop 4).take 4).toArray⟩ := by rw [ba_extract]; simp
  have x48 : (⟨(l.drop 4).toArray⟩ : ByteArray).extract 4 8 = ⟨(((l.drop 4).drop 4).take 4).toArray⟩ := ba_extract _ _ _
  have x8 : (⟨(l.drop 4).toArray⟩ : ByteArray).extract 8 (n - 4) = ⟨(l.drop 12).toArray⟩ := by rw [ba_extract, List.take_of_length_le (by rw [List.length_drop, List.length_drop]; omega), List.drop_drop]
  have H1 : Hid (∀ (w1 : World) d os, Calls Tryd.prog 106 #[.string ⟨((l.drop 4).take 4).toArray⟩] (grow (redrawn w1 d) os) fun e w'' => e = .returned (.int .u32 (valN ((l.drop 4).take 4) : Int)) ∧ ∃ p : Regrown, w'' = grow (redrawn w1 p.d) p.os) := Lib.hid fun w1 d os => Calls.grown (number_any _ (by rw [List.length_take]; omega) _)
  have H2 : Hid (∀ (w1 : World) d os, Calls Tryd.prog 106 #[.string ⟨(((l.drop 4).drop 4).take 4).toArray⟩] (grow (redrawn w1 d) os) fun e w'' => e = .returned (.int .u32 (valN (((l.drop 4).drop 4).take 4) : Int)) ∧ ∃ p : Regrown, w'' = grow (redrawn w1 p.d) p.os) := Lib.hid fun w1 d os => Calls.grown (number_any _ (by rw [List.length_take]; omega) _)
  have HU := Lib.hid (unframed_any (l.drop 12) 524288 (by rw [List.length_drop]; omega))
  have hv1 : valN ((l.drop 4).take 4) < 4294967296 := valN4 _ (by rw [List.length_take]; omega)
  have hv2 : valN (((l.drop 4).drop 4).take 4) < 4294967296 := valN4 _ (by rw [List.length_take]; omega)
  have hv : valN ((l.drop 4).take 8) = valN ((l.drop 4).take 4) * 4294967296 + valN (((l.drop 4).drop 4).take 4) := by
    rw [valN_8 _ (by rw [List.length_take, List.length_drop]; omega), List.take_take, List.drop_take]
    rfl
  have hor : bits .or .u64 ((valN ((l.drop 4).take 4) : Int) * 4294967296) (valN (((l.drop 4).drop 4).take 4) : Int) = (valN ((l.drop 4).take 8) : Int) := by
    rw [show ((valN ((l.drop 4).take 4) : Int) * 4294967296) = ((valN ((l.drop 4).take 4) * 4294967296 : Nat) : Int) by omega, u64_or_nat _ _ (by omega) (by omega), nat_join 32 _ _ (by omega) (by omega), hv]
  rw [hu] at HU
  generalize valN ((l.drop 4).take 8) = v at *
  generalize valN ((l.drop 4).take 4) = v1 at *
  generalize valN (((l.drop 4).drop 4).take 4) = v2 at *
  generalize (l.drop 4).take 4 = q1 at *
  generalize ((l.drop 4).drop 4).take 4 = q2 at *
  generalize l.drop 12 = q3 at *
  generalize n - 4 = k at *
  generalize l.drop 4 = q at *
  have hi1 : (0 : Int) ≤ v1 := by omega
  have hi2 : (v1 : Int) < 4294967296 := by omega
  have hi3 : (0 : Int) ≤ v2 := by omega
  have hi4 : (v2 : Int) < 4294967296 := by omega
  have hi5 : (0 : Int) ≤ v := by omega
  have hi6 : (v : Int) < 18446744073709551616 := by omega
  have hd : decide ((4611686018427387904 : Int) < (v : Int)) = false := by simp; omega
  have hdn : decide (4611686018427387904 < v) = false := by simp; omega
  clear hl hm hn hv
  go_enter Tryd.func94, Tryd.ntmps94
  go_wp2_with fail
  refine (HP.out _).mono ?_
  rintro e w1 ⟨rfl, rfl⟩
  go_wp2_with fail
  generalize (w.alloc (.cells #[.int .i64 0, .string ⟨#[]⟩, .string ⟨#[]⟩] 115)) = w1 at HW HN ⊢
  replace H1 := Lib.hid (H1.out w1)
  replace H2 := Lib.hid (H2.out w1)
  refine wp_region_quiet_below mixed (by kernel_rfl) ?_
  repeat (first | go_big_quiet_step (first | (with_reducible exact H1.out _ _) | (with_reducible exact H2.out _ _)) | quiet_step (first | (with_reducible exact H1.out _ _) | (with_reducible exact H2.out _ _)))
  refine wpQuiet_nil ?_
  intro _ hw'
  obtain ⟨⟨dq, osq⟩, hw''⟩ := hw'
  subst hw''
  have hb2 := below_regrown w1 dq osq
  replace HN := Lib.hid (HN.out.below hb2)
  replace HW := Lib.hid (HW.out.trans (hb2.mono HW.out.size))
  generalize grow (redrawn w1 dq) osq = w2 at HN HW ⊢
  clear hb2 H1 H2
  go_wp2_with fail
  refine (HU.out w2 (HT.out.below HW.out)).mono ?_
  rintro e w3 ⟨rfl, hb3⟩
  replace HN := Lib.hid (HN.out.below hb3)
  replace HW := Lib.hid (HW.out.trans (hb3.mono HW.out.size))
  clear hb3 HT HU HP
  unfold ufV
  obtain ⟨i0, i1, i2, -⟩ : w3.cell? ⟨w.heap.size, 0, none⟩ = some (.int .i64 0) ∧ w3.cell? ⟨w.heap.size, 1, none⟩ = some (.string ⟨#[]⟩) ∧ w3.cell? ⟨w.heap.size, 2, none⟩ = some (.string ⟨#[]⟩) ∧ True := ⟨HN.out.cell 0, HN.out.cell 1, HN.out.cell 2, trivial⟩
  have f0 := HN.out.fro 0
  have f1 := HN.out.fro 1
  have f2 := HN.out.fro 2
  go_wp2_with fail
  refine ret_cell115 rfl w.heap.size (.int .i64 0) (.string ⟨#[]⟩) (.string ⟨#[]⟩) rfl (by first | exact HN.out | exact HN.out.put3) rfl ⟨rfl, ?_⟩
  first | exact HW.out | exact below_put3 HW.out (Nat.le_refl _)
set_option maxHeartbeats 16000000 in
theorem begin_gen (l : Bs) (hl : l.length ≤ 1048576) (hm : l.take 4 = mark) (h : ¬ l.length < 12) (snap b : Bs) (hu : unframed (l.drop 12) 524288 = some (snap, b)) (hg : ¬ valN ((l.drop 4).take 8) ≤ 4611686018427387904) (w : World) (hT : Tb w) :
    Calls Tryd.prog 94 #[.string ⟨l.toArray⟩] w fun e w' => e = .returned (.agg #[.int .i64 0, .string ⟨#[]⟩, .string ⟨#[]⟩]) ∧ Below w.heap.size w w' := by
  have HT := Lib.hid hT
  have hw0 : Below w.heap.size w (w.alloc (.cells #[.int .i64 0, .string ⟨#[]⟩, .string ⟨#[]⟩] 115)) := (Below.refl _ _).alloc (Nat.le_refl _) _
  have HW := Lib.hid hw0
  have HN : Hid (Bk 115 (w.alloc (.cells #[.int .i64 0, .string ⟨#[]⟩, .string ⟨#[]⟩] 115)) w.heap.size #[.int .i64 0, .string ⟨#[]⟩, .string ⟨#[]⟩]) := Lib.hid (Bk.new rfl)
  have HP := Lib.hid (fun w1 : World => Tryd.strings_CutPrefix ⟨l.toArray⟩ ⟨#[83, 78, 76, 49]⟩ w1)
  have hpr : Lib.hasPrefix l [83, 78, 76, 49] = true := by rw [prefix_take _ _ rfl]; simpa [mark] using hm
  have htr : Lib.trimPrefix l [83, 78, 76, 49] = l.drop 4 := by unfold Lib.trimPrefix; rw [hpr]; simp
  simp only [List.toList_toArray] at HP
  rw [hpr, htr] at HP
  clear hpr htr hT hw0
  obtain ⟨n, hn⟩ : ∃ n, n = l.length := ⟨_, rfl⟩
  have hz4 : (⟨(l.drop 4).toArray⟩ : ByteArray).size = n - 4 := by rw [size_ba, List.length_drop, hn]
  have hz4b : (l.drop 4).length = n - 4 := by rw [List.length_drop, hn]
  have hs : decide (((n - 4 : Nat) : Int) < 8) = false := by simp; omega
  have hsn : decide (n - 4 < 8) = false := by simp; omega
  have hs8 : (8 : Int) ≤ ((n - 4 : Nat) : Int) := by omega
  have x4 : (⟨(l.drop 4).toArray⟩ : ByteArray).extract 0 4 = ⟨((l.drop 4).take 4).toArray⟩ := by rw [ba_extract]; simp
  have x48 : (⟨(l.drop 4).toArray⟩ : ByteArray).extract 4 8 = ⟨(((l.drop 4).drop 4).take 4).toArray⟩ := ba_extract _ _ _
  have x8 : (⟨(l.drop 4).toArray⟩ : ByteArray).extract 8 (n - 4) = ⟨(l.drop 12).toArray⟩ := by rw [ba_extract, List.take_of_length_le (by rw [List.length_drop, List.length_drop]; omega), List.drop_drop]
  have H1 : Hid (∀ (w1 : World) d os, Calls Tryd.prog 106 #[.string ⟨((l.drop 4).take 4).toArray⟩] (grow (redrawn w1 d) os) fun e w'' => e = .returned (.int .u32 (valN ((l.drop 4).take 4) : Int)) ∧ ∃ p : Regrown, w'' = grow (redrawn w1 p.d) p.os) := Lib.hid fun w1 d os => Calls.grown (number_any _ (by rw [List.length_take]; omega) _)
  have H2 : Hid (∀ (w1 : World) d os, Calls Tryd.prog 106 #[.string ⟨(((l.drop 4).drop 4).take 4).toArray⟩] (grow (redrawn w1 d) os) fun e w'' => e = .returned (.int .u32 (valN (((l.drop 4).drop 4).take 4) : Int)) ∧ ∃ p : Regrown, w'' = grow (redrawn w1 p.d) p.os) := Lib.hid fun w1 d os => Calls.grown (number_any _ (by rw [List.length_take]; omega) _)
  have HU := Lib.hid (unframed_any (l.drop 12) 524288 (by rw [List.length_drop]; omega))
  have hv1 : valN ((l.drop 4).take 4) < 4294967296 := valN4 _ (by rw [List.length_take]; omega)
  have hv2 : valN (((l.drop 4).drop 4).take 4) < 4294967296 := valN4 _ (by rw [List.length_take]; omega)
  have hv : valN ((l.drop 4).take 8) = valN ((l.drop 4).take 4) * 4294967296 + valN (((l.drop 4).drop 4).take 4) := by
    rw [valN_8 _ (by rw [List.length_take, List.length_drop]; omega), List.take_take, List.drop_take]
    rfl
  have hor : bits .or .u64 ((valN ((l.drop 4).take 4) : Int) * 4294967296) (valN (((l.drop 4).drop 4).take 4) : Int) = (valN ((l.drop 4).take 8) : Int) := by
    rw [show ((valN ((l.drop 4).take 4) : Int) * 4294967296) = ((valN ((l.drop 4).take 4) * 4294967296 : Nat) : Int) by omega, u64_or_nat _ _ (by omega) (by omega), nat_join 32 _ _ (by omega) (by omega), hv]
  rw [hu] at HU
  have hul := unframed_len hu
  generalize valN ((l.drop 4).take 8) = v at *
  generalize valN ((l.drop 4).take 4) = v1 at *
  generalize valN (((l.drop 4).drop 4).take 4) = v2 at *
  generalize (l.drop 4).take 4 = q1 at *
  generalize ((l.drop 4).drop 4).take 4 = q2 at *
  generalize l.drop 12 = q3 at *
  generalize n - 4 = k at *
  generalize l.drop 4 = q at *
  have hi1 : (0 : Int) ≤ v1 := by omega
  have hi2 : (v1 : Int) < 4294967296 := by omega
  have hi3 : (0 : Int) ≤ v2 := by omega
  have hi4 : (v2 : Int) < 4294967296 := by omega
  have hi5 : (0 : Int) ≤ v := by omega
  have hi6 : (v : Int) < 18446744073709551616 := by omega
  have hd : decide ((4611686018427387904 : Int) < (v : Int)) = true := by simp; omega
  have hdn : decide (4611686018427387904 < v) = true := by simp; omega
  clear hl hm hn hv
  go_enter Tryd.func94, Tryd.ntmps94
  go_wp2_with fail
  refine (HP.out _).mono ?_
  rintro e w1 ⟨rfl, rfl⟩
  go_wp2_with fail
  generalize (w.alloc (.cells #[.int .i64 0, .string ⟨#[]⟩, .string ⟨#[]⟩] 115)) = w1 at HW HN ⊢
  replace H1 := Lib.hid (H1.out w1)
  replace H2 := Lib.hid (H2.out w1)
  refine wp_region_quiet_below mixed (by kernel_rfl) ?_
  repeat (first | go_big_quiet_step (first | (with_reducible exact H1.out _ _) | (with_reducible exact H2.out _ _)) | quiet_step (first | (with_reducible exact H1.out _ _) | (with_reducible exact H2.out _ _)))
  refine wpQuiet_nil ?_
  intro _ hw'
  obtain ⟨⟨dq, osq⟩, hw''⟩ := hw'
  subst hw''
  have hb2 := below_regrown w1 dq osq
  replace HN := Lib.hid (HN.out.below hb2)
  replace HW := Lib.hid (HW.out.trans (hb2.mono HW.out.size))
  generalize grow (redrawn w1 dq) osq = w2 at HN HW ⊢
  clear hb2 H1 H2
  go_wp2_with fail
  refine (HU.out w2 (HT.out.below HW.out)).mono ?_
  rintro e w3 ⟨rfl, hb3⟩
  replace HN := Lib.hid (HN.out.below hb3)
  replace HW := Lib.hid (HW.out.trans (hb3.mono HW.out.size))
  clear hb3 HT HU HP
  unfold ufV
  obtain ⟨i0, i1, i2, -⟩ : w3.cell? ⟨w.heap.size, 0, none⟩ = some (.int .i64 0) ∧ w3.cell? ⟨w.heap.size, 1, none⟩ = some (.string ⟨#[]⟩) ∧ w3.cell? ⟨w.heap.size, 2, none⟩ = some (.string ⟨#[]⟩) ∧ True := ⟨HN.out.cell 0, HN.out.cell 1, HN.out.cell 2, trivial⟩
  have f0 := HN.out.fro 0
  have f1 := HN.out.fro 1
  have f2 := HN.out.fro 2
  go_wp2_with fail
  refine ret_cell115 rfl w.heap.size (.int .i64 0) (.string ⟨#[]⟩) (.string ⟨#[]⟩) rfl (by first | exact HN.out | exact HN.out.put3) rfl ⟨rfl, ?_⟩
  first | exact HW.out | exact below_put3 HW.out (Nat.le_refl _)
set_option maxHeartbeats 16000000 in
theorem begin_ok (l : Bs) (hl : l.length ≤ 1048576) (hm : l.take 4 = mark) (h : ¬ l.length < 12) (snap b : Bs) (hu : unframed (l.drop 12) 524288 = some (snap, b)) (hg : valN ((l.drop 4).take 8) ≤ 4611686018427387904) (w : World) (hT : Tb w) :
    Calls Tryd.prog 94 #[.string ⟨l.toArray⟩] w fun e w' => e = .returned (.agg #[.int .i64 (valN ((l.drop 4).take 8) : Int), .string ⟨snap.toArray⟩, .string ⟨b.toArray⟩]) ∧ Below w.heap.size w w' := by
  have HT := Lib.hid hT
  have hw0 : Below w.heap.size w (w.alloc (.cells #[.int .i64 0, .string ⟨#[]⟩, .string ⟨#[]⟩] 115)) := (Below.refl _ _).alloc (Nat.le_refl _) _
  have HW := Lib.hid hw0
  have HN : Hid (Bk 115 (w.alloc (.cells #[.int .i64 0, .string ⟨#[]⟩, .string ⟨#[]⟩] 115)) w.heap.size #[.int .i64 0, .string ⟨#[]⟩, .string ⟨#[]⟩]) := Lib.hid (Bk.new rfl)
  have HP := Lib.hid (fun w1 : World => Tryd.strings_CutPrefix ⟨l.toArray⟩ ⟨#[83, 78, 76, 49]⟩ w1)
  have hpr : Lib.hasPrefix l [83, 78, 76, 49] = true := by rw [prefix_take _ _ rfl]; simpa [mark] using hm
  have htr : Lib.trimPrefix l [83, 78, 76, 49] = l.drop 4 := by unfold Lib.trimPrefix; rw [hpr]; simp
  simp only [List.toList_toArray] at HP
  rw [hpr, htr] at HP
  clear hpr htr hT hw0
  obtain ⟨n, hn⟩ : ∃ n, n = l.length := ⟨_, rfl⟩
  have hz4 : (⟨(l.drop 4).toArray⟩ : ByteArray).size = n - 4 := by rw [size_ba, List.length_drop, hn]
  have hz4b : (l.drop 4).length = n - 4 := by rw [List.length_drop, hn]
  have hs : decide (((n - 4 : Nat) : Int) < 8) = false := by simp; omega
  have hsn : decide (n - 4 < 8) = false := by simp; omega
  have hs8 : (8 : Int) ≤ ((n - 4 : Nat) : Int) := by omega
  have x4 : (⟨(l.drop 4).toArray⟩ : ByteArray).extract 0 4 = ⟨((l.drop 4).take 4).toArray⟩ := by rw [ba_extract]; simp
  have x48 : (⟨(l.drop 4).toArray⟩ : ByteArray).extract 4 8 = ⟨(((l.drop 4).drop 4).take 4).toArray⟩ := ba_extract _ _ _
  have x8 : (⟨(l.drop 4).toArray⟩ : ByteArray).extract 8 (n - 4) = ⟨(l.drop 12).toArray⟩ := by rw [ba_extract, List.take_of_length_le (by rw [List.length_drop, List.length_drop]; omega), List.drop_drop]
  have H1 : Hid (∀ (w1 : World) d os, Calls Tryd.prog 106 #[.string ⟨((l.drop 4).take 4).toArray⟩] (grow (redrawn w1 d) os) fun e w'' => e = .returned (.int .u32 (valN ((l.drop 4).take 4) : Int)) ∧ ∃ p : Regrown, w'' = grow (redrawn w1 p.d) p.os) := Lib.hid fun w1 d os => Calls.grown (number_any _ (by rw [List.length_take]; omega) _)
  have H2 : Hid (∀ (w1 : World) d os, Calls Tryd.prog 106 #[.string ⟨(((l.drop 4).drop 4).take 4).toArray⟩] (grow (redrawn w1 d) os) fun e w'' => e = .returned (.int .u32 (valN (((l.drop 4).drop 4).take 4) : Int)) ∧ ∃ p : Regrown, w'' = grow (redrawn w1 p.d) p.os) := Lib.hid fun w1 d os => Calls.grown (number_any _ (by rw [List.length_take]; omega) _)
  have HU := Lib.hid (unframed_any (l.drop 12) 524288 (by rw [List.length_drop]; omega))
  have hv1 : valN ((l.drop 4).take 4) < 4294967296 := valN4 _ (by rw [List.length_take]; omega)
  have hv2 : valN (((l.drop 4).drop 4).take 4) < 4294967296 := valN4 _ (by rw [List.length_take]; omega)
  have hv : valN ((l.drop 4).take 8) = valN ((l.drop 4).take 4) * 4294967296 + valN (((l.drop 4).drop 4).take 4) := by
    rw [valN_8 _ (by rw [List.length_take, List.length_drop]; omega), List.take_take, List.drop_take]
    rfl
  have hor : bits .or .u64 ((valN ((l.drop 4).take 4) : Int) * 4294967296) (valN (((l.drop 4).drop 4).take 4) : Int) = (valN ((l.drop 4).take 8) : Int) := by
    rw [show ((valN ((l.drop 4).take 4) : Int) * 4294967296) = ((valN ((l.drop 4).take 4) * 4294967296 : Nat) : Int) by omega, u64_or_nat _ _ (by omega) (by omega), nat_join 32 _ _ (by omega) (by omega), hv]
  rw [hu] at HU
  have hul := unframed_len hu
  generalize valN ((l.drop 4).take 8) = v at *
  generalize valN ((l.drop 4).take 4) = v1 at *
  generalize valN (((l.drop 4).drop 4).take 4) = v2 at *
  generalize (l.drop 4).take 4 = q1 at *
  generalize ((l.drop 4).drop 4).take 4 = q2 at *
  generalize l.drop 12 = q3 at *
  generalize n - 4 = k at *
  generalize l.drop 4 = q at *
  have hi1 : (0 : Int) ≤ v1 := by omega
  have hi2 : (v1 : Int) < 4294967296 := by omega
  have hi3 : (0 : Int) ≤ v2 := by omega
  have hi4 : (v2 : Int) < 4294967296 := by omega
  have hi5 : (0 : Int) ≤ v := by omega
  have hi6 : (v : Int) < 18446744073709551616 := by omega
  have hd : decide ((4611686018427387904 : Int) < (v : Int)) = false := by simp; omega
  have hdn : decide (4611686018427387904 < v) = false := by simp; omega
  have hi7 : (v : Int) ≤ 4611686018427387904 := by omega
  clear hl hm hn hv
  go_enter Tryd.func94, Tryd.ntmps94
  go_wp2_with fail
  refine (HP.out _).mono ?_
  rintro e w1 ⟨rfl, rfl⟩
  go_wp2_with fail
  generalize (w.alloc (.cells #[.int .i64 0, .string ⟨#[]⟩, .string ⟨#[]⟩] 115)) = w1 at HW HN ⊢
  replace H1 := Lib.hid (H1.out w1)
  replace H2 := Lib.hid (H2.out w1)
  refine wp_region_quiet_below mixed (by kernel_rfl) ?_
  repeat (first | go_big_quiet_step (first | (with_reducible exact H1.out _ _) | (with_reducible exact H2.out _ _)) | quiet_step (first | (with_reducible exact H1.out _ _) | (with_reducible exact H2.out _ _)))
  refine wpQuiet_nil ?_
  intro _ hw'
  obtain ⟨⟨dq, osq⟩, hw''⟩ := hw'
  subst hw''
  have hb2 := below_regrown w1 dq osq
  replace HN := Lib.hid (HN.out.below hb2)
  replace HW := Lib.hid (HW.out.trans (hb2.mono HW.out.size))
  generalize grow (redrawn w1 dq) osq = w2 at HN HW ⊢
  clear hb2 H1 H2
  go_wp2_with fail
  refine (HU.out w2 (HT.out.below HW.out)).mono ?_
  rintro e w3 ⟨rfl, hb3⟩
  replace HN := Lib.hid (HN.out.below hb3)
  replace HW := Lib.hid (HW.out.trans (hb3.mono HW.out.size))
  clear hb3 HT HU HP
  unfold ufV
  obtain ⟨i0, i1, i2, -⟩ : w3.cell? ⟨w.heap.size, 0, none⟩ = some (.int .i64 0) ∧ w3.cell? ⟨w.heap.size, 1, none⟩ = some (.string ⟨#[]⟩) ∧ w3.cell? ⟨w.heap.size, 2, none⟩ = some (.string ⟨#[]⟩) ∧ True := ⟨HN.out.cell 0, HN.out.cell 1, HN.out.cell 2, trivial⟩
  have f0 := HN.out.fro 0
  have f1 := HN.out.fro 1
  have f2 := HN.out.fro 2
  go_wp2_with fail
  refine ret_cell115 rfl w.heap.size (.int .i64 (v : Int)) (.string ⟨snap.toArray⟩) (.string ⟨b.toArray⟩) rfl (by first | exact HN.out | exact HN.out.put3) rfl ⟨rfl, ?_⟩
  first | exact HW.out | exact below_put3 HW.out (Nat.le_refl _)
theorem begin_any (l : Bs) (hl : l.length ≤ 1048576) (w : World) (hT : Tb w) :
    Calls Tryd.prog 94 #[.string ⟨l.toArray⟩] w fun e w' => e = .returned (begV (begins l)) ∧ Below w.heap.size w w' := by
  unfold begins
  by_cases hm : l.take 4 = mark
  · by_cases h : l.length < 12
    · rw [if_neg (by omega)]; exact begin_short l hl hm h w hT
    · cases hu : unframed (l.drop 12) 524288 with
      | none =>
        by_cases hg : valN ((l.drop 4).take 8) ≤ 4611686018427387904
        · rw [if_pos ⟨hm, by omega, hg⟩]; exact begin_nono l hl hm h hu hg w hT
        · rw [if_neg (fun h => hg h.2.2)]; exact begin_nong l hl hm h hu hg w hT
      | some x =>
        obtain ⟨snap, b⟩ := x
        by_cases hg : valN ((l.drop 4).take 8) ≤ 4611686018427387904
        · rw [if_pos ⟨hm, by omega, hg⟩]; exact begin_ok l hl hm h snap b hu hg w hT
        · rw [if_neg (fun h => hg h.2.2)]; exact begin_gen l hl hm h snap b hu hg w hT
  · rw [if_neg (fun h => hm h.1)]; exact begin_mark l hl hm w hT
end Go.Proofs.YtmoihgniglomiaaDoor
