/- The document's log: where it lies; its New. Condition: the document's disk. -/
import Derived.Test.YtmoihgniglomiaaDoorZXa
import Derived.Test.YtmoihgniglomiaaDoorZBh
set_option linter.unusedVariables false
set_option linter.unusedSimpArgs false
set_option maxRecDepth 100000
namespace Go.Proofs.YtmoihgniglomiaaDoor
open Go.RowKit Go.Sort

/-- the cells of the document's log -/
def rlc (r : Nat) (l : Wlg) : Array Value := #[.pointer (some ⟨r, 0, none⟩), .int .i64 (l.file : Int), .int .u64 (l.gen : Int), .int .i64 (l.n : Int), .bool l.dead]
theorem Rm.trans {w w1 w2 : World} {r : Nat} {uv : Value} {S1 S2 : St} (h : Rm w r uv w1 S1) (k : ∀ uv1 kp1, Rk w1 r S1 uv1 kp1 → Rm w1 r uv1 w2 S2) : Rm w r uv w2 S2 := by
  obtain ⟨uv1, kp1, h1, h2, h3⟩ := h
  obtain ⟨uv2, kp2, k1, k2, k3⟩ := k uv1 kp1 h1
  refine ⟨uv2, kp2, k1, h2.trans k2 (fun x hx => .inl hx), fun g e => ?_⟩
  rcases k3 g e with e | e
  · exact h3 g e
  · exact .inr (Nat.le_trans h2.size e)
theorem Rm.down {w w1 w2 : World} {r : Nat} {uv : Value} {S1 : St} (h : Rm w r uv w1 S1) (hb : Below w1.heap.size w1 w2) : Rm w r uv w2 S1 := by
  obtain ⟨uv1, kp1, h1, h2, h3⟩ := h
  exact ⟨uv1, kp1, h1.below hb, h2.trans (Only.of (L := []) hb) (fun x hx => by simp at hx), h3⟩
theorem Rm.up {w w1 w2 : World} {r : Nat} {uv : Value} {S1 : St} (hb : Below w.heap.size w w1) (h : Rm w1 r uv w2 S1) : Rm w r uv w2 S1 := by
  obtain ⟨uv1, kp1, h1, h2, h3⟩ := h
  exact ⟨uv1, kp1, h1, (Only.of (L := [r]) hb).trans h2 (fun x hx => .inl hx), fun g e => (h3 g e).imp id fun e => Nat.le_trans hb.size e⟩
theorem Rm.only {w w1 : World} {r : Nat} {uv : Value} {S1 : St} (h : Rm w r uv w1 S1) : Only [r] w w1 := by
  obtain ⟨uv1, kp1, h1, h2, h3⟩ := h
  exact h2
theorem Rm.lt {w w1 : World} {r : Nat} {uv : Value} {S1 : St} (h : Rm w r uv w1 S1) : r < w1.heap.size := by
  obtain ⟨uv1, kp1, h1, h2, h3⟩ := h
  exact h1.blk.lt
/-- what the document's New answers and leaves -/
def RNes (w : World) (r : Nat) (uv : Value) (x : Nat × St) (e : Ending) (w' : World) : Prop := ∃ v, e = .returned (.tuple #[v, .int .i64 (x.1 : Int)]) ∧ Rm w r uv w' x.2 ∧ (x.1 = 0 → ∃ b, v = .pointer (some ⟨b, 0, none⟩) ∧ w.heap.size ≤ b ∧ Bk 102 w' b (rlc r ⟨0, 1, 0, false⟩)) ∧ (x.1 ≠ 0 → v = .pointer none)
set_option maxHeartbeats 8000000 in
theorem rnew_dead {w : World} {r : Nat} {S : St} {uv : Value} {kp : Int} (h : Rk w r S uv kp) (hg : S.gone = true) : Calls Tryd.prog 14 #[.pointer (some ⟨r, 0, none⟩)] w fun e w' => RNes w r uv (2, S) e w' := by
  have c5 : w.cell? ⟨r, 5, none⟩ = some (.bool S.gone) := h.blk.cell 5
  rw [hg] at c5
  have H := Lib.hid h
  clear h
  go_enter Tryd.func14, Tryd.ntmps14
  go_wp2_with fail
  go_returns
  exact ⟨_, rfl, Rm.same H.out (Below.refl _ _), (fun h => absurd h (by simp)), fun _ => rfl⟩
set_option maxHeartbeats 8000000 in
theorem rnew_form {w : World} {r : Nat} {S : St} {uv : Value} {kp : Int} (h : Rk w r S uv kp) (hg : S.gone = false) (hf : S.f0.length > 0 ∨ S.f1.length > 0) : Calls Tryd.prog 14 #[.pointer (some ⟨r, 0, none⟩)] w fun e w' => RNes w r uv (100, S) e w' := by
  have c5 : w.cell? ⟨r, 5, none⟩ = some (.bool S.gone) := h.blk.cell 5
  rw [hg] at c5
  have H := Lib.hid h
  have z0 := Lib.hid (size32 r S uv kp 0 w h)
  have z1 := Lib.hid (size32 r S uv kp 1 w h)
  rw [show S.size 0 = (S.f0.length : Int) from size_at S 0 (by omega)] at z0
  rw [show S.size 1 = (S.f1.length : Int) from size_at S 1 (by omega)] at z1
  clear h
  by_cases h0 : S.f0.length > 0
  · have hd : decide ((0 : Int) < (S.f0.length : Int)) = true := decide_eq_true (by omega)
    have hdn : decide (0 < S.f0.length) = true := decide_eq_true (by omega)
    clear h0 hf
    go_enter Tryd.func14, Tryd.ntmps14
    go_wp2_with fail
    refine z0.out.mono ?_
    rintro e w1 ⟨rfl, rfl⟩
    go_wp2_with fail
    go_returns
    exact ⟨_, rfl, Rm.same H.out (Below.refl _ _), (fun h => absurd h (by simp)), fun _ => rfl⟩
  · have hd : decide ((0 : Int) < (S.f0.length : Int)) = false := decide_eq_false (by omega)
    have hdn : decide (0 < S.f0.length) = false := decide_eq_false (by omega)
    have hd1 : decide ((0 : Int) < (S.f1.length : Int)) = true := decide_eq_true (by omega)
    have hd1n : decide (0 < S.f1.length) = true := decide_eq_true (by omega)
    clear h0 hf
    go_enter Tryd.func14, Tryd.ntmps14
    go_wp2_with fail
    refine z0.out.mono ?_
    rintro e w1 ⟨rfl, rfl⟩
    go_wp2_with fail
    refine z1.out.mono ?_
    rintro e w1 ⟨rfl, rfl⟩
    go_wp2_with fail
    go_returns
    exact ⟨_, rfl, Rm.same H.out (Below.refl _ _), (fun h => absurd h (by simp)), fun _ => rfl⟩
set_option maxHeartbeats 16000000 in
theorem rnew_lay {w : World} {r : Nat} {S : St} {uv : Value} {kp : Int} (h : Rk w r S uv kp) (hg : S.gone = false) (h0 : ¬ S.f0.length > 0) (h1 : ¬ S.f1.length > 0) : Calls Tryd.prog 14 #[.pointer (some ⟨r, 0, none⟩)] w fun e w' => RNes w r uv (lays S 0 1 []) e w' := by
  have c5 : w.cell? ⟨r, 5, none⟩ = some (.bool S.gone) := h.blk.cell 5
  rw [hg] at c5
  have H := Lib.hid h
  have z0 := Lib.hid (size32 r S uv kp 0 w h)
  have z1 := Lib.hid (size32 r S uv kp 1 w h)
  rw [show S.size 0 = (S.f0.length : Int) from size_at S 0 (by omega)] at z0
  rw [show S.size 1 = (S.f1.length : Int) from size_at S 1 (by omega)] at z1
  have hd : decide ((0 : Int) < (S.f0.length : Int)) = false := decide_eq_false (by omega)
  have hdn : decide (0 < S.f0.length) = false := decide_eq_false (by omega)
  have hd1 : decide ((0 : Int) < (S.f1.length : Int)) = false := decide_eq_false (by omega)
  have hd1n : decide (0 < S.f1.length) = false := decide_eq_false (by omega)
  have hb := Lib.hid (bytes_any 1 8 (by omega) (by omega) w)
  have hfr := Lib.hid (rframe_any [] (by simp))
  have e1 : (⟨#[83, 78, 76, 49]⟩ : ByteArray) ++ ⟨(be 8 1).toArray⟩ = ⟨(mark ++ be 8 1).toArray⟩ := ba_app mark _
  have e2 : (⟨(mark ++ be 8 1).toArray⟩ : ByteArray) ++ ⟨(frame []).toArray⟩ = ⟨(fileOf 1 []).toArray⟩ := ba_app _ _
  have l1 : (be 8 1).length = 8 := be_len _ _
  have l2 : (mark ++ be 8 1).length = 12 := by simp [mark, be_len]
  have l3 : (frame []).length = 8 := by rw [frame_len]; rfl
  have hfl : (fileOf 1 []).length = 20 := by rw [fileOf_len]; rfl
  have hlc := lays_code S 0 1 (by omega) [] (by rw [show S.file 0 = S.f0 from rfl]; simp; omega)
  have hA : Hid (∀ w1, Below w.heap.size w w1 → Calls Tryd.prog 46 #[.pointer (some ⟨r, 0, none⟩), .int .i64 0, .string ⟨(fileOf 1 []).toArray⟩] w1 fun e w' => e = .returned (.int .i64 ((S.append 0 (fileOf 1 [])).1 : Int)) ∧ Rm w r uv w' (S.append 0 (fileOf 1 [])).2) := Lib.hid fun w1 hb => by
    have := append33 r S uv kp 0 ⟨(fileOf 1 []).toArray⟩ (by rw [size_ba]; omega) w1 (H.out.below hb)
    simp only [List.toList_toArray] at this
    refine this.mono ?_
    rintro e w2 ⟨rfl, hm⟩
    exact ⟨rfl, Rm.up hb hm⟩
  have HLC := Lib.hid hlc
  unfold lays at HLC ⊢
  rw [show ((0 : Nat) : Int) = 0 from rfl] at HLC ⊢
  generalize fileOf 1 [] = fo at *
  generalize hr1 : S.append 0 fo = r1 at *
  obtain ⟨c1, S1⟩ := r1
  generalize hr2 : S1.sync = r2 at *
  obtain ⟨c2, S2⟩ := r2
  have hc1 : c1 = 0 ∨ c1 = 2 := by
    have := append_code S 0 fo (by omega) (by rw [show S.file 0 = S.f0 from rfl]; omega)
    rw [show ((0 : Nat) : Int) = 0 from rfl, hr1] at this
    exact this
  generalize mark ++ be 8 1 = x1 at *
  generalize frame [] = x2 at *
  generalize be 8 1 = x3 at *
  have HSY := Lib.hid hr2
  clear h h0 h1 hlc hr1 hr2
  rcases hc1 with rfl | rfl
  · rw [if_pos rfl] at HLC ⊢
    go_enter Tryd.func14, Tryd.ntmps14
    go_wp2_with fail
    refine z0.out.mono ?_
    rintro e w1 ⟨rfl, rfl⟩
    go_wp2_with fail
    refine z1.out.mono ?_
    rintro e w1 ⟨rfl, rfl⟩
    go_wp2_with fail
    refine hb.out.mono ?_
    rintro e w1 ⟨rfl, hb1⟩
    have HB1 := Lib.hid hb1; clear hb1
    go_wp2_with fail
    refine (hfr.out w1).mono ?_
    rintro e w2 ⟨rfl, hb2⟩
    have HB2 := Lib.hid (HB1.out.trans (hb2.mono HB1.out.size)); clear hb2
    go_wp2_with fail
    refine (hA.out w2 HB2.out).mono ?_
    rintro e w3 ⟨rfl, hm⟩
    have M3 := Lib.hid hm; clear hm
    go_wp2_with fail
    obtain ⟨uv3, kp3, k3, o3, n3⟩ := M3.out
    have hs := sync34 r S1 uv3 kp3 w3 k3
    rw [HSY.out] at hs
    refine hs.mono ?_
    rintro e w4 ⟨rfl, hm4⟩
    have M4 : Hid (Rm w r uv w4 S2) := Lib.hid (by
      obtain ⟨uv4, kp4, k4, o4, n4⟩ := hm4
      refine ⟨uv4, kp4, k4, o3.trans o4 (fun x hx => .inl hx), fun g e => ?_⟩
      rcases n4 g e with e | e
      · exact n3 g e
      · exact .inr (Nat.le_trans o3.size e))
    clear hm4 hs k3 o3 n3 M3
    rcases HLC.out with rfl | rfl
    · go_wp2_with fail
      go_returns
      refine ⟨_, rfl, M4.out.down (by go_grown), fun _ => ⟨w4.heap.size, rfl, by obtain ⟨uv4, kp4, k4, o4, n4⟩ := M4.out; exact o4.size, ?_⟩, fun h => absurd rfl h⟩
      exact Bk.new rfl
    · go_wp2_with fail
      go_returns
      exact ⟨_, rfl, M4.out, (fun h => absurd h (by simp)), fun _ => rfl⟩
  · rw [if_neg (by simp)] at HLC ⊢
    go_enter Tryd.func14, Tryd.ntmps14
    go_wp2_with fail
    refine z0.out.mono ?_
    rintro e w1 ⟨rfl, rfl⟩
    go_wp2_with fail
    refine z1.out.mono ?_
    rintro e w1 ⟨rfl, rfl⟩
    go_wp2_with fail
    refine hb.out.mono ?_
    rintro e w1 ⟨rfl, hb1⟩
    have HB1 := Lib.hid hb1; clear hb1
    go_wp2_with fail
    refine (hfr.out w1).mono ?_
    rintro e w2 ⟨rfl, hb2⟩
    have HB2 := Lib.hid (HB1.out.trans (hb2.mono HB1.out.size)); clear hb2
    go_wp2_with fail
    refine (hA.out w2 HB2.out).mono ?_
    rintro e w3 ⟨rfl, hm⟩
    have M3 := Lib.hid hm; clear hm
    go_wp2_with fail
    go_returns
    exact ⟨_, rfl, M3.out, (fun h => absurd h (by simp)), fun _ => rfl⟩
theorem wrnew_any {w : World} {r : Nat} {S : St} {uv : Value} {kp : Int} (h : Rk w r S uv kp) : Calls Tryd.prog 14 #[.pointer (some ⟨r, 0, none⟩)] w fun e w' => RNes w r uv (lnew S) e w' := by
  unfold lnew
  by_cases hg : S.gone = true
  · rw [if_pos hg]; exact rnew_dead h hg
  · have hg' : S.gone = false := by simpa using hg
    rw [if_neg hg]
    by_cases hf : S.f0.length > 0 ∨ S.f1.length > 0
    · rw [if_pos hf]; exact rnew_form h hg' hf
    · rw [if_neg hf]; exact rnew_lay h hg' (by omega) (by omega)
end Go.Proofs.YtmoihgniglomiaaDoor
