/- A number read from 32 bytes. Condition: fewer than 2 to the 47 bytes. -/
import Derived.Test.YtglmmodkflkkkaaJc
set_option linter.unusedVariables false
set_option linter.unusedSimpArgs false
set_option maxRecDepth 100000
namespace Go.Proofs.Ytglmmodkflkkkaa
open Go.RowKit Limbs

theorem nb_same {s : List UInt8} {x : Nat} (hx : x < W256) (hs : s.length = 32) : nb x = s ↔ bv s = x := by
  constructor
  · rintro rfl; exact nb_val hx
  · intro h
    exact bv_inj _ _ (by rw [nb_length, hs]) (by rw [nb_val hx, h])
set_option maxHeartbeats 16000000 in
theorem of_any (m : Int) (s : List UInt8) (hs : s.length ≤ 140737488351232) (w : World) :
    Calls Try.prog 31 #[.int .i64 m, .string ⟨s.toArray⟩] w fun e w' => e = .returned (if s.length = 32 ∧ bv s < md m then .tuple #[nv (bv s), .int .i64 0] else .tuple #[nv 0, .int .i64 60]) ∧ Below w.heap.size w w' := by
  have hM := md_or m
  obtain ⟨hMW, hM2, hM3, hMp⟩ := md_lt hM
  have HR := Lib.hid (reduce_any m s hs)
  generalize md m = M at *
  obtain ⟨RV, hRV⟩ : ∃ z, z = if s.length = 32 ∧ bv s < M then Value.tuple #[nv (bv s), .int .i64 0] else .tuple #[nv 0, .int .i64 60] := ⟨_, rfl⟩
  rw [← hRV]
  have HRV := Lib.hid hRV
  clear hRV
  have hrW : bv s % M < W256 := Nat.lt_trans (Nat.mod_lt _ (by omega)) hMW
  have hmod : bv s % M = bv s ↔ bv s < M := ⟨fun h => by rw [← h]; exact Nat.mod_lt _ (by omega), fun h => Nat.mod_eq_of_lt h⟩
  have HBY := Lib.hid (bytes_any (bv s % M))
  by_cases h32 : s.length = 32
  · have hsame := nb_same hrW h32
    obtain ⟨r, hr⟩ : ∃ z, z = bv s % M := ⟨_, rfl⟩
    rw [← hr] at HR HBY hsame hmod
    simp only [nv, num] at HR HBY ⊢
    have hsz : (⟨s.toArray⟩ : ByteArray).size = 32 := by simp [ByteArray.size, h32]
    have hSN : (⟨(nb r).toArray⟩ : ByteArray) = ⟨s.toArray⟩ ↔ bv s = r := by
      rw [← hsame]
      constructor
      · intro h
        injection h with h
        have := congrArg Array.toList h
        simpa using this
      · intro h; rw [h]
    generalize (⟨s.toArray⟩ : ByteArray) = S at *
    generalize (⟨(nb r).toArray⟩ : ByteArray) = NB at *
    have HX := Lib.hid (And.intro hSN (And.intro hmod h32))
    have t1 : ((S.size : Int) != 32) = false := by simp [hsz]
    clear hSN hmod h32 hsame hr hrW hs hM hMW hM2 hM3 hMp hsz
    go_enter Try.func31, Try.ntmps31
    go_wp2_with fail
    refine (keep w.heap.size w (HR.out _) (by go_grown) (Nat.le_refl _)).mono ?_
    rintro e w1 ⟨rfl, hb, hk⟩
    have KR : Hid (Bk 24 w1 w.heap.size cs0) := Lib.hid (Bk.below (Bk.new rfl) hk)
    have HB := Lib.hid hb
    clear hk hb
    go_wp2_with fail
    refine (keep w.heap.size w (HBY.out _) (by have hb := HB.out; have hs := hb.size; go_grown) (Nat.le_refl _)).mono ?_
    rintro e w2 ⟨rfl, hb, hk⟩
    have K2R := Lib.hid (Bk.below (Bk.alloc KR.out) hk)
    have K2A : Hid (Bk 24 w2 w1.heap.size (cs4 r)) := Lib.hid (Bk.below (Bk.new rfl) hk)
    have HB2 := Lib.hid hb
    clear hk hb KR HB
    obtain ⟨j0, j1, j2, j3⟩ := K2R.out.cells
    obtain ⟨f0, f1, f2, f3⟩ := K2R.out.fros
    obtain ⟨i0, i1, i2, i3⟩ := K2A.out.cells
    by_cases hNS : NB = S
    · have HV : Hid (RV = .tuple #[nv r, .int .i64 0]) := Lib.hid (by
        have h1 := HX.out.1.1 hNS
        have h2 := HX.out.2.1.1 h1.symm
        rw [HRV.out, if_pos ⟨HX.out.2.2, h2⟩, h1])
      have t2 : (NB.toList == S.toList) = true := by rw [hNS]; simp
      clear hNS HRV
      go_wp2_with fail
      refine ret_cell2 rfl w.heap.size r (.int .i64 0) rfl rfl (Bk.put K2R.out) rfl ⟨by rw [HV.out], ?_⟩
      have hb := HB2.out
      go_grown
    · have HV : Hid (RV = .tuple #[nv 0, .int .i64 60]) := Lib.hid (by
        rw [HRV.out, if_neg (fun h => hNS (HX.out.1.2 (HX.out.2.1.2 h.2).symm))])
      have t2 : (NB.toList == S.toList) = false := by rw [← beq_toListBytes]; show (NB.data == S.data) = false; exact beq_eq_false_iff_ne.2 (fun h => hNS (ByteArray.ext h))
      clear hNS HRV
      go_wp2_with fail
      refine ret_cell2 rfl w.heap.size 0 (.int .i64 60) rfl rfl (Bk.put K2R.out) rfl ⟨by rw [HV.out], ?_⟩
      have hb := HB2.out
      go_grown
  · have HV : Hid (RV = .tuple #[nv 0, .int .i64 60]) := Lib.hid (by rw [HRV.out, if_neg (fun h => h32 h.1)])
    have t1 : (((⟨s.toArray⟩ : ByteArray).size : Int) != 32) = true := by simp [ByteArray.size]; omega
    generalize (⟨s.toArray⟩ : ByteArray) = S at *
    clear HRV h32 hmod hrW hs hM hMW hM2 hM3 hMp HBY HR
    go_enter Try.func31, Try.ntmps31
    go_wp2_with fail
    refine ret_cell2 rfl w.heap.size 0 (.int .i64 60) rfl rfl (Bk.new rfl) rfl ⟨by rw [HV.out], by go_grown⟩
end Go.Proofs.Ytglmmodkflkkkaa
