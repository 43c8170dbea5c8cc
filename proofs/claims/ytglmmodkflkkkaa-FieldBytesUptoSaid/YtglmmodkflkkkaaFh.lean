/- A number divided by 2 (the reference's half). Condition: at most 10^5 digits. -/
import Derived.Test.YtglmmodkflkkkaaFe
import Derived.Laws.MakeOwn
set_option linter.unusedVariables false
set_option linter.unusedSimpArgs false
set_option maxRecDepth 100000
namespace Go.Proofs.Ytglmmodkflkkkaa.Ref
open Go.RowKit Go.Proofs.Ytglmmodkflkkkaa.Digits

def us (l : List Nat) : Array Value := (l.map fun x => Value.int .u32 ((x : Nat) : Int)).toArray
theorem us_set (l : List Nat) (o x : Nat) : (us l).setIfInBounds o (.int .u32 ((x : Nat) : Int)) = us (l.set o x) := by simp [us, List.map_set]
theorem blk_put {w : World} {b : Nat} {cs : Array Value} {T : TypeId} {z : Nat × Nat} (h : w.heap[b]? = some (.cells cs T z)) (o : Nat) (v : Value) : (w.setCell ⟨b, o, none⟩ v).heap[b]? = some (.cells (cs.setIfInBounds o v) T z) := by
  simp [World.setCell, Array.getElem?_modify, h]
theorem made_us (n : Nat) : madeCells (Value.int .u32 0).cells (n * 1) = us (List.replicate n 0) := by
  apply Array.ext
  · simp [us, madeCells]
  · intro i h1 h2
    simp [us, madeCells, Value.cells, Nat.mod_one]
theorem make_us (w : World) (n : Nat) (hn : n ≤ 100000) : (Instr.makeSlice 26 (.int .i64 (n : Int)) (.int .i64 (n : Int))).run Try.prog w = .ok (.slice (some ⟨w.heap.size, 0, none⟩) n n) (w.alloc (.cells (us (List.replicate n 0)) 75)) := by
  obtain ⟨i0, hi, hz0, hz1, hz2⟩ := info_parts info75
  have := run_make (P := Try.prog) w 26 75 i0 (.int .u32 0) Try.underlying26 hi hz0 .i64 .i64 n n (by omega) (Int.le_refl _) (by rw [hz2]; omega) (by omega)
  rw [hz1] at this
  simp only [Int.toNat_natCast] at this
  rw [this, made_us]
theorem us_dr {w : World} {g : Nat} {l : List Nat} (h : w.heap[g]? = some (.cells (us l) 75 (0, 0))) (hl : l.length ≤ 100000) : Dr w (.slice (some ⟨g, 0, none⟩) l.length l.length) l := by
  refine ⟨g, l.length, rfl, Nat.le_refl _, by omega, (Array.getElem?_eq_some_iff.1 h).1, fun i hi => ?_⟩
  rw [Lib.cell_of_heap h]
  simp [us, hi]

theorem drop_val {l : List Nat} {i : Nat} (h : i < l.length) : val (l.drop i) = l[i] + 65536 * val (l.drop (i + 1)) := by
  rw [List.drop_eq_getElem_cons h, val]
set_option maxHeartbeats 4000000 in
theorem half_any (a : List Nat) (ha : Dig a) (hla : a.length ≤ 100000) (v : Value) (w : World) (h : Dr w v a) :
    Calls Try.prog 63 #[v] w fun e w' => ∃ v', e = .returned v' ∧ Nr w w' v' (val a / 2) := by
  obtain ⟨g, cap, rfl, hc, hcm, hg, hca⟩ := h
  have HCA := Lib.hid hca
  have HA := Lib.hid ha
  have HG := Lib.hid hg
  obtain ⟨n, hn⟩ : ∃ n, n = a.length := ⟨_, rfl⟩
  rw [← hn] at hla ⊢
  have HN := Lib.hid hn
  have hmk := make_us w n hla
  have HB0 := Lib.hid ((Below.refl w.heap.size w).alloc (Nat.le_refl _) (.cells (us (List.replicate n 0)) 75))
  have HH0 : Hid ((w.alloc (.cells (us (List.replicate n 0)) 75)).heap[w.heap.size]? = some (.cells (us (List.replicate n 0)) 75 (0, 0))) := Lib.hid (Go.heap_alloc_new w _)
  clear hca ha hg hc hcm hn
  go_enter Try.func63, Try.ntmps63
  go_wp2_with fail
  clear hmk
  go_loopw [4, 5] (fun c i wr => ∃ (j cc : Nat) (out : List Nat), j ≤ n ∧ i = .int .i64 ((j : Int) - 1) ∧ c = .int .u32 cc ∧ cc ≤ 1 ∧ out.length = n ∧ Dig out ∧ 2 * val (out.drop j) + cc = val (a.drop j) ∧ wr.heap[w.heap.size]? = some (.cells (us out) 75 (0, 0)) ∧ Below w.heap.size w wr) (fun _ i _ => (intOf i + 1).toNat)
  case atStart => exact ⟨n, 0, List.replicate n 0, Nat.le_refl _, rfl, rfl, by omega, by simp, fun x hx => by rw [List.mem_replicate] at hx; omega, by rw [List.drop_of_length_le (by simp), List.drop_of_length_le (by have := HN.out; omega)]; rfl, HH0.out, HB0.out⟩
  case round =>
    obtain ⟨j, cc, out, hj, rfl, rfl, hcc, hol, hd, hv, hh, hb⟩ := hrel
    have HH := Lib.hid hh
    have HW := Lib.hid hb
    have HD := Lib.hid hd
    have HV := Lib.hid hv
    have HOL := Lib.hid hol
    clear hh hb hd hv hol HH0 HB0
    by_cases h0 : j = 0
    · subst h0
      have HVV : Hid (val out = val a / 2) := Lib.hid (by
        have := HV.out
        rw [List.drop_zero, List.drop_zero] at this
        omega)
      have HDR := Lib.hid (us_dr HH.out (by rw [HOL.out]; exact hla))
      rw [HOL.out] at HDR
      go_wp2_with fail
      refine (trim_any out _ _ HDR.out).mono ?_
      rintro e w2 ⟨⟨v2, rfl, hdr⟩, rfl⟩
      have HF : Hid (Nr w wr v2 (val a / 2)) := Lib.hid ⟨⟨_, hdr, trim_dig HD.out, trim_trim _, by rw [trim_val, HVV.out]⟩, HW.out⟩
      clear hdr
      go_wp2_with fail
      go_ret
      exact ⟨_, rfl, HF.out⟩
    · obtain ⟨k, rfl⟩ : ∃ k, j = k + 1 := ⟨j - 1, by omega⟩
      have hka : k < a.length := by have := HN.out; omega
      have hko : k < out.length := by rw [HOL.out]; omega
      have ia := (HW.out.cell (p := ⟨g, k, none⟩) HG.out).trans (HCA.out k hka)
      have io : wr.cell? ⟨w.heap.size, k, none⟩ = some (.int .u32 ((out[k] : Nat) : Int)) := by
        rw [Lib.cell_of_heap HH.out]; simp [us, hko]
      have fo := Lib.frozen_of_heap HH.out k
      have hx := HA.out _ (List.getElem_mem hka)
      have e1 : ((k + 1 : Nat) : Int) - 1 = (k : Int) := by omega
      have hda := drop_val hka
      generalize a[k] = x at ia hx hda
      generalize out[k] = old at io
      obtain ⟨S, hS⟩ : ∃ S, S = cc * 65536 + x := ⟨_, rfl⟩
      have hor : bits .or .u32 ((cc : Int) * 65536) (x : Int) = (S : Int) := by
        rw [show ((cc : Int) * 65536) = ((cc * 65536 : Nat) : Int) from by omega, u32_or_nat _ _ (by omega) (by omega), nat_join 16 _ _ (by omega) (by omega), hS]
      have hand : bits .and .u32 (S : Int) 1 = ((S % 2 : Nat) : Int) := by
        have := u32_and_nat S 1 (by omega) (by decide)
        rw [show ((1 : Nat) : Int) = 1 from rfl, Nat.and_one_is_mod] at this
        exact this
      have hsd : (S : Int) / 2 = ((S / 2 : Nat) : Int) := by omega
      have hsb : S < 131072 := by omega
      have hs2 : S % 2 ≤ 1 := by omega
      have HS : Hid (2 * val ((out.set k (S / 2)).drop k) + S % 2 = val (a.drop k)) := Lib.hid (by
        rw [hda, drop_val (by rw [List.length_set]; exact hko)]
        have h1 : (out.set k (S / 2)).drop (k + 1) = out.drop (k + 1) := by rw [List.drop_set_of_lt (by omega)]
        have h2 : (out.set k (S / 2))[k]'(by rw [List.length_set]; exact hko) = S / 2 := by simp
        rw [h1, h2]
        have := HV.out
        omega)
      have HD2 : Hid (Dig (out.set k (S / 2))) := Lib.hid (fun y hy => by
        rcases List.mem_or_eq_of_mem_set hy with h | h
        · exact HD.out y h
        · omega)
      have HU : Hid ((us out).setIfInBounds k (.int .u32 ((S / 2 : Nat) : Int)) = us (out.set k (S / 2))) := Lib.hid (us_set _ _ _)
      have HOL2 : Hid ((out.set k (S / 2)).length = n) := Lib.hid (by rw [List.length_set]; exact HOL.out)
      clear hS hda HV HD
      generalize S / 2 = H at hsd HS HD2 HU HOL2
      generalize S % 2 = C at hand hs2 HS
      rw [e1]
      go_wp2_with fail
      go_roundw
      case rel => exact ⟨k, C, out.set k H, by omega, by go_num, rfl, hs2, HOL2.out, HD2.out, HS.out, (blk_put HH.out k _).trans (by rw [HU.out]), HW.out.setCell (p := ⟨w.heap.size, k, none⟩) (Nat.le_refl _) _⟩
      case measure => simp [intOf]
end Go.Proofs.Ytglmmodkflkkkaa.Ref
