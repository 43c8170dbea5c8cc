/- Codes of six digits: Code. Conditions: secrets of at most 2^48 bytes, a world in which the library's table of powers lies as its text lays it. -/
import Derived.Test.YteaanoaldnnflaaDoorO
import Derived.Test.YteaanoaldnnflaaDoorOd
import Derived.Lib.LaidTab
set_option linter.unusedVariables false
set_option linter.unusedSimpArgs false
namespace Go.Proofs.YteaanoaldnnflaaDoor
open Go.RowKit Go.Sort

/-- the code of a secret and a step -/
def codeL (key : List UInt8) (s : Int) : List UInt8 := digs (numN (macL key (eightL (u64n s))))
theorem codeL_length (key : List UInt8) (s : Int) : (codeL key s).length = 6 := digs_length _
/-- the library's table of powers lies as its text lays it -/
def Tb (w : World) : Prop := Lib.TabIs Tryd.prog w "internal/strconv.uint64pow10" .u64 Lib.pow10Tab
theorem Tb.below {w w' : World} (h : Tb w) (hb : Below w.heap.size w w') : Tb w' := by
  unfold Tb Lib.TabIs World.var? at *
  cases hg : Tryd.prog.globalNamed "internal/strconv.uint64pow10" with
  | none => simp [hg] at h
  | some g =>
    simp only [hg, Option.bind_some] at h ⊢
    have hlt : g < w.heap.size := by
      rcases Nat.lt_or_ge g w.heap.size with h' | h'
      · exact h'
      · rw [Array.getElem?_eq_none h'] at h; simp at h
    rw [hb.block g hlt]
    exact h

theorem itoa_any (n : Nat) (w : World) (hT : Tb w) :
    Calls Tryd.prog 16 #[.int .i64 (1000000 + ((n % 1000000 : Nat) : Int))] w fun e w' => e = .returned (.string ⟨(Lib.itoa ((1000000 + n % 1000000 : Nat) : Int)).toArray⟩) ∧ Below w.heap.size w w' := by
  rw [show 1000000 + ((n % 1000000 : Nat) : Int) = ((1000000 + n % 1000000 : Nat) : Int) from by omega]
  refine (Tryd.strconv_Itoa ((1000000 + n % 1000000 : Nat) : Int) (by omega) (by omega) w hT).mono ?_
  rintro e w' ⟨rfl, k, os, rfl⟩
  refine ⟨rfl, ?_⟩
  exact below_regrown w (w.drewN k).drawn os

set_option maxHeartbeats 2000000 in
set_option maxRecDepth 100000 in
theorem code_any (key : List UInt8) (hk : key.length ≤ 281474976710656) (s : Int) (h0 : -9223372036854775808 ≤ s) (h1 : s ≤ 9223372036854775807) (w : World) (hT : Tb w) :
    Calls Tryd.prog 9 #[.string ⟨key.toArray⟩, .int .i64 s] w fun e w' => e = .returned (.string ⟨(codeL key s).toArray⟩) ∧ Below w.heap.size w w' := by
  have HE := Lib.hid (eight_any (u64n s) (u64n_lt s))
  have HM := Lib.hid (Mac_any key (eightL (u64n s)) hk (by rw [eightL_length]; decide))
  have HML : Hid ((macL key (eightL (u64n s))).length = 32) := Lib.hid (mac_length _ _)
  have HN := Lib.hid (number_any (macL key (eightL (u64n s))) HML.out)
  have HC : Hid ((Lib.itoa ((1000000 + numN (macL key (eightL (u64n s))) % 1000000 : Nat) : Int)).drop 1 = codeL key s) := Lib.hid (itoa_digs _)
  have HI := Lib.hid (fun w hT => itoa_any (numN (macL key (eightL (u64n s)))) w hT)
  have hiL := itoa_length7 (numN (macL key (eightL (u64n s))))
  have hn31 : numN (macL key (eightL (u64n s))) < 2147483648 := Nat.mod_lt _ (by decide)
  have hsz := size_ba (Lib.itoa ((1000000 + numN (macL key (eightL (u64n s))) % 1000000 : Nat) : Int))
  rw [hiL] at hsz
  have hu : ((u64n s : Nat) : Int) = s % 18446744073709551616 := by unfold u64n; omega
  have HT := Lib.hid hT
  clear hT hk
  generalize macL key (eightL (u64n s)) = m at *
  generalize numN m = n at *
  generalize hU : u64n s = u at *
  go_enter Tryd.func9, Tryd.ntmps9
  go_wp2_with fail
  rw [show IntKind.u64.wrap s = (u : Int) from by rw [hu]; rfl]
  refine (HE.out _).mono ?_
  rintro e w1 ⟨rfl, b1⟩
  have B1 := Lib.hid b1
  clear b1 HE hu
  go_wp2_with fail
  refine (HM.out _).mono ?_
  rintro e w2 ⟨rfl, b2⟩
  have B2 := Lib.hid (B1.out.trans (b2.mono B1.out.size))
  clear b2 B1 HM
  go_wp2_with fail
  refine (HN.out _).mono ?_
  rintro e w3 ⟨rfl, rfl⟩
  clear HN
  have hmod : (n : Int) % 1000000 = ((n % 1000000 : Nat) : Int) := by omega
  have hm2 : n % 1000000 < 1000000 := Nat.mod_lt _ (by decide)
  have HT2 := Lib.hid (HT.out.below B2.out)
  have hex : (⟨(Lib.itoa ((1000000 + n % 1000000 : Nat) : Int)).toArray⟩ : ByteArray).extract 1 7 = ⟨(codeL key s).toArray⟩ := by
    have := ext_ba (Lib.itoa ((1000000 + n % 1000000 : Nat) : Int)) 1 6
    rwa [HC.out, List.take_of_length_le (by rw [codeL_length]; omega)] at this
  generalize Lib.itoa ((1000000 + n % 1000000 : Nat) : Int) = t at HI hex hsz hiL HC
  generalize n % 1000000 = q at hmod hm2 HI
  go_wp2_with fail
  refine (HI.out _ HT2.out).mono ?_
  rintro e w4 ⟨rfl, b4⟩
  have B4 := Lib.hid (B2.out.trans (b4.mono B2.out.size))
  clear b4 B2 HI
  go_wp2_with fail
  go_ret
  exact ⟨rfl, B4.out⟩
end Go.Proofs.YteaanoaldnnflaaDoor
