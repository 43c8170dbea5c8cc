/- Sums of numbers (the reference's Add). Condition: at most 10^13 digits each. -/
import Derived.Test.YtglmmodkflkkkaaFc
import Derived.Laws.BitsAllLaws
import Derived.Lib.SlBuf
import Derived.Deep.AppendLies
import Derived.Laws.Shifts
import Derived.Laws.IdiomStrings
import Derived.Laws.Tables
import Derived.Laws.Rows
import Derived.Lib.BufferRead
set_option linter.unusedVariables false
set_option linter.unusedSimpArgs false
set_option maxRecDepth 100000
namespace Go.Proofs.Ytglmmodkflkkkaa.Ref
open Go.RowKit Go.Proofs.Ytglmmodkflkkkaa.Digits

theorem at0 (g j : Nat) : (⟨g, 0, none⟩ : Addr).add j = ⟨g, j, none⟩ := by unfold Addr.add; split <;> simp_all
/-- a row of digits of the call's own -/
def cd (l : List Nat) : List Value := l.map fun x => Value.int .u32 ((x : Nat) : Int)
def Rd (B : Nat) (v : Value) (l : List Nat) (w : World) : Prop := w.ownsRow B 75 1 v l.length (cd l)
theorem Rd.snoc {B : Nat} {v : Value} {l : List Nat} {w : World} {x : Nat} (h : w.ownsRow B 75 1 v (l.length + 1) (cd l ++ [.int .u32 ((x : Nat) : Int)])) : Rd B v (l ++ [x]) w := by
  have e : cd (l ++ [x]) = cd l ++ [.int .u32 ((x : Nat) : Int)] := by simp [cd]
  unfold Rd
  rw [e]
  simpa using h
theorem Rd.below {B : Nat} {v : Value} {l : List Nat} {w w' : World} (h : Rd B v l w) (hb : Below w.heap.size w w') : Rd B v l w' := by
  refine ⟨h.1, ?_⟩
  rcases h.2 with hn | ⟨g, cap, cur, hv, hg, hh, rest⟩
  · exact .inl hn
  · exact .inr ⟨g, cap, cur, hv, hg, (hb.block _ (Array.getElem?_eq_some_iff.1 hh).1).trans hh, rest⟩
theorem Rd.nil (w : World) : Rd w.heap.size (.slice (some ⟨w.heap.size, 0, none⟩) 0 0) [] (w.alloc (.cells #[] 75)) :=
  ⟨rfl, .inr ⟨w.heap.size, 0, #[], rfl, Nat.le_refl _, Go.heap_alloc_new w _, Nat.le_refl _, Nat.zero_le _, rfl, rfl⟩⟩
theorem Rd.dr {B : Nat} {v : Value} {l : List Nat} {w : World} (h : Rd B v l w) (hl : l ≠ []) (hm : l.length ≤ 10000000000001) : Dr w v l := by
  have H := h
  rcases h.2 with ⟨rfl, h0⟩ | ⟨g, cap, cur, rfl, hg, hh, h1, h2, h3, _⟩
  · exact absurd (List.eq_nil_of_length_eq_zero h0) hl
  · refine ⟨g, cap, rfl, h1, by unfold maxLen at h2; omega, (Array.getElem?_eq_some_iff.1 hh).1, fun i hi => ?_⟩
    have := World.ownsRow.cells H (g := g) rfl i (.int .u32 ((l[i] : Nat) : Int)) (by simp [cd, hi])
    rwa [at0] at this
theorem info75 : (Try.prog.info? 75).map (fun i => (i.zero, i.size, i.bytes)) = some (some (.int .u32 0), 1, 4) := by kernel_rfl
theorem al_le (w : World) (o : Obj) : w.heap.size ≤ (w.alloc o).heap.size := by show w.heap.size ≤ (w.heap.push _).size; simp
/-- 'l = append(l, x)' -/
theorem app_d {ops : Array Oper} {rest : List Oper} {o : Oper} {a : Act} {Q : Exit → Act → World → Prop} {w W : World} {v : Value} {l : List Nat} (z : Int) (n : Nat) (hz : z = (n : Int)) (s x : Operand) (hgd : o.guard = none)
    (ho : o.op = .call { callee := .builtin .append, args := #[s, x], argTypes := #[26, 26] }) (hs : a.eval s = v) (hx : a.eval x = .slice (some ⟨w.heap.size, 0, none⟩) 1 1)
    (hI : Rd W.heap.size v l w) (hb : Below W.heap.size W w) (hlen : l.length ≤ 10000000000000)
    (h : ∀ v' w', Rd W.heap.size v' (l ++ [n]) w' → Below W.heap.size W w' → wpList Try.prog ops Q rest (a.put o.dst v') w') : wpList Try.prog ops Q (o :: rest) a (w.alloc (.cells #[.int .u32 z] 75)) := by
  subst hz
  obtain ⟨i0, hi, hz0, hz1, hz2⟩ := info_parts info75
  have hI' := hI.below (Below.alloc (Below.refl _ _) (Nat.le_refl _) (.cells #[.int .u32 (n : Int)] 75))
  have hsz := hb.size
  refine wpList_append_own _ hgd s x 26 ho W.heap.size 75 i0 (.int .u32 0) 1 4 Try.underlying26 hi hz0 hz1 hz2 rfl (by decide) v l.length _ hs hI' ⟨w.heap.size, 0, none⟩ 1 1 [.int .u32 (n : Int)] hx rfl (World.news_of_block (Go.heap_alloc_new w _)) (by simp [Value.oneCell']) (by unfold maxLen; omega) (by omega) (by simp; omega) ?_
  intro v' w' h1 h2 _
  exact h v' w' (Rd.snoc h1) ((hb.alloc (by omega) _).grown h2 (by simp; omega) (fun g hk => (World.ownsRow.lt hI' g hk).1))

theorem and16 (n : Nat) (h : n < 4294967296) : bits .and .u32 (n : Int) 65535 = ((n % 65536 : Nat) : Int) := by
  have := u32_and_nat n 65535 h (by decide)
  rw [show ((65535 : Nat) : Int) = 65535 from rfl, show (65535 : Nat) = 2 ^ 16 - 1 from rfl, Nat.and_two_pow_sub_one_eq_mod] at this
  exact this
/-- what Add answers -/
structure Nr (w w' : World) (v : Value) (n : Nat) : Prop where
  row : ∃ r, Dr w' v r ∧ Dig r ∧ Trim r ∧ val r = n
  below : Below w.heap.size w w'

theorem take_val {a : List Nat} {i : Nat} (h : i < a.length) : val (a.take (i + 1)) = val (a.take i) + 65536 ^ i * a[i] := by
  rw [List.take_succ_eq_append_getElem h, val_snoc, List.length_take, Nat.min_eq_left (by omega)]

set_option maxHeartbeats 4000000 in
theorem add_any (a b : List Nat) (ha : Dig a) (hb : Dig b) (hla : a.length ≤ 1000000000000) (hlb : b.length ≤ 1000000000000) (v u : Value) (w : World) (h : Dr w v a) (k : Dr w u b) :
    Calls Try.prog 57 #[v, u] w fun e w' => ∃ v', e = .returned v' ∧ Nr w w' v' (val a + val b) := by
  obtain ⟨g, cap, rfl, hc, hcm, hg, hca⟩ := h
  obtain ⟨g2, cap2, rfl, hc2, hcm2, hg2, hcb⟩ := k
  have HCA := Lib.hid hca
  have HCB := Lib.hid hcb
  have HA := Lib.hid ha
  have HB := Lib.hid hb
  have HG := Lib.hid (And.intro hg hg2)
  have HR0 := Lib.hid (Rd.nil w)
  have HB0 := Lib.hid ((Below.refl w.heap.size w).alloc (Nat.le_refl _) (.cells #[] 75))
  clear hca hcb ha hb hg hg2 hc hcm hc2 hcm2
  obtain ⟨na, hna⟩ : ∃ na, na = a.length := ⟨_, rfl⟩
  obtain ⟨nb, hnb⟩ : ∃ nb, nb = b.length := ⟨_, rfl⟩
  rw [← hna] at hla ⊢
  rw [← hnb] at hlb ⊢
  have HNA := Lib.hid hna
  have HNB := Lib.hid hnb
  clear hna hnb
  go_enter Try.func57, Try.ntmps57
  go_wp2_with fail
  go_loopw [5, 6, 7] (fun o c i wr => ∃ (j cc : Nat) (out : List Nat), j ≤ max na nb ∧ i = .int .i64 j ∧ c = .int .u32 cc ∧ cc ≤ 1 ∧ out.length = j ∧ Dig out ∧ val out + 65536 ^ j * cc = val (a.take j) + val (b.take j) ∧ Rd w.heap.size o out wr ∧ Below w.heap.size w wr) (fun _ _ i _ => max na nb - (intOf i).toNat)
  case atStart => exact ⟨0, 0, [], by omega, rfl, rfl, by omega, rfl, fun x hx => by simp at hx, by simp [val], HR0.out, HB0.out⟩
  case round =>
    obtain ⟨j, cc, out, hj, rfl, rfl, hcc, hol, hd, hv, hr, hb⟩ := hrel
    have HR := Lib.hid hr
    have HW := Lib.hid hb
    have HD := Lib.hid hd
    have HV := Lib.hid hv
    have HOL := Lib.hid hol
    clear hr hb hd hv hol HR0 HB0
    by_cases hlt : j < max na nb
    · have hex : ∃ x y : Nat, x < 65536 ∧ y < 65536 ∧ (j < na → wr.cell? ⟨g, j, none⟩ = some (.int .u32 (x : Int))) ∧ (¬ j < na → x = 0) ∧ (j < nb → wr.cell? ⟨g2, j, none⟩ = some (.int .u32 (y : Int))) ∧ (¬ j < nb → y = 0) ∧ val (a.take (j + 1)) = val (a.take j) + 65536 ^ j * x ∧ val (b.take (j + 1)) = val (b.take j) + 65536 ^ j * y := by
        have one : ∀ (l : List Nat) (g n : Nat), n = l.length → Dig l → g < w.heap.size → (∀ i (hi : i < l.length), w.cell? ⟨g, i, none⟩ = some (.int .u32 ((l[i] : Nat) : Int))) → ∃ x : Nat, x < 65536 ∧ (j < n → wr.cell? ⟨g, j, none⟩ = some (.int .u32 (x : Int))) ∧ (¬ j < n → x = 0) ∧ val (l.take (j + 1)) = val (l.take j) + 65536 ^ j * x := by
          intro l g n hn hd hg hc
          by_cases hjl : j < l.length
          · exact ⟨l[j], hd _ (List.getElem_mem hjl), fun _ => (HW.out.cell (p := ⟨g, j, none⟩) hg).trans (hc j hjl), fun h => by omega, take_val hjl⟩
          · refine ⟨0, by omega, fun h => by omega, fun _ => rfl, ?_⟩
            rw [List.take_of_length_le (by omega), List.take_of_length_le (by omega)]; simp
        obtain ⟨x, x1, x2, x3, x4⟩ := one a g na HNA.out HA.out HG.out.1 HCA.out
        obtain ⟨y, y1, y2, y3, y4⟩ := one b g2 nb HNB.out HB.out HG.out.2 HCB.out
        exact ⟨x, y, x1, y1, x2, x3, y2, y3, x4, y4⟩
      obtain ⟨x, y, hx, hy, ix, zx, iy, zy, tx, ty⟩ := hex
      have HTX := Lib.hid tx
      have HTY := Lib.hid ty
      clear tx ty
      obtain ⟨S, hS⟩ : ∃ S, S = cc + x + y := ⟨_, rfl⟩
      have HS : Hid (val (out ++ [S % 65536]) + 65536 ^ (j + 1) * (S / 65536) = val (a.take (j + 1)) + val (b.take (j + 1))) := Lib.hid (by
        rw [val_snoc, HOL.out, HTX.out, HTY.out, Nat.pow_succ, Nat.mul_assoc, Nat.add_assoc, ← Nat.mul_add, Nat.mod_add_div, hS]
        have := HV.out
        rw [Nat.mul_add, Nat.mul_add]
        omega)
      have HD2 : Hid (Dig (out ++ [S % 65536])) := Lib.hid (dig_snoc HD.out (Nat.mod_lt _ (by decide)))
      have hs16 := and16 S (by omega)
      have hs2 : S / 65536 ≤ 1 := by omega
      have hsd : (S : Int) / 65536 = ((S / 65536 : Nat) : Int) := by omega
      have hse : (S : Int) % 65536 = ((S % 65536 : Nat) : Int) := by omega
      have hsb : S < 200000 := by omega
      generalize S % 65536 = D at HS HD2 hs16 hse
      generalize S / 65536 = C at HS hs2 hsd
      clear HTX HTY HV HD
      by_cases h1 : j < na
      · have ix' := ix h1
        clear ix zx
        by_cases h2 : j < nb
        · have iy' := iy h2
          clear iy zy
          have hsx : ((cc : Int) + x + y) = (S : Int) := by omega
          clear hS
          go_wp2_with (at_builtin; refine app_d _ D rfl (.tmp 41) (.tmp 44) rfl rfl rfl rfl HR.out HW.out (by rw [HOL.out]; omega) ?_; intro v1 w1 hr hb; have HR2 := Lib.hid hr; have HW2 := Lib.hid hb; clear hr hb)
          go_roundw
          case rel => exact ⟨j + 1, C, out ++ [D], by omega, by go_num, rfl, hs2, by rw [List.length_append, HOL.out]; rfl, HD2.out, HS.out, HR2.out, HW2.out⟩
          case measure => simp [intOf]; omega
        · have y0 := zy h2
          have hsx : ((cc : Int) + x) = (S : Int) := by omega
          clear hS iy zy y0
          go_wp2_with (at_builtin; refine app_d _ D rfl (.tmp 41) (.tmp 44) rfl rfl rfl rfl HR.out HW.out (by rw [HOL.out]; omega) ?_; intro v1 w1 hr hb; have HR2 := Lib.hid hr; have HW2 := Lib.hid hb; clear hr hb)
          go_roundw
          case rel => exact ⟨j + 1, C, out ++ [D], by omega, by go_num, rfl, hs2, by rw [List.length_append, HOL.out]; rfl, HD2.out, HS.out, HR2.out, HW2.out⟩
          case measure => simp [intOf]; omega
      · have x0 := zx h1
        have h2 : j < nb := by omega
        have iy' := iy h2
        have hsx : ((cc : Int) + y) = (S : Int) := by omega
        clear hS ix zx iy zy x0
        go_wp2_with (at_builtin; refine app_d _ D rfl (.tmp 41) (.tmp 44) rfl rfl rfl rfl HR.out HW.out (by rw [HOL.out]; omega) ?_; intro v1 w1 hr hb; have HR2 := Lib.hid hr; have HW2 := Lib.hid hb; clear hr hb)
        go_roundw
        case rel => exact ⟨j + 1, C, out ++ [D], by omega, by go_num, rfl, hs2, by rw [List.length_append, HOL.out]; rfl, HD2.out, HS.out, HR2.out, HW2.out⟩
        case measure => simp [intOf]; omega
    · obtain rfl : j = max na nb := by omega
      have HVV : Hid (val (out ++ [cc]) = val a + val b) := Lib.hid (by
        have := HV.out
        rw [List.take_of_length_le (by rw [← HNA.out]; omega), List.take_of_length_le (by rw [← HNB.out]; omega)] at this
        rw [val_snoc, HOL.out]
        exact this)
      have HDD : Hid (Dig (out ++ [cc])) := Lib.hid (dig_snoc HD.out (by omega))
      have h1 : ¬ (max na nb < na) := by omega
      have h2 : ¬ (max na nb < nb) := by omega
      generalize hmx : max na nb = mx at *
      have h1' : ¬ ((mx : Int) < na) := by omega
      have h2' : ¬ ((mx : Int) < nb) := by omega
      go_wp2_with (at_builtin; refine app_d _ cc rfl (.tmp 48) (.tmp 50) rfl rfl rfl rfl HR.out HW.out (by rw [HOL.out]; omega) ?_; intro v1 w1 hr hb; have HR2 := Lib.hid hr; have HW2 := Lib.hid hb; clear hr hb)
      refine (trim_any (out ++ [cc]) v1 w1 (HR2.out.dr (by simp) (by rw [List.length_append, HOL.out]; simp; omega))).mono ?_
      rintro e w2 ⟨⟨v2, rfl, hdr⟩, rfl⟩
      have HF : Hid (Nr w w1 v2 (val a + val b)) := Lib.hid ⟨⟨_, hdr, trim_dig HDD.out, trim_trim _, by rw [trim_val, HVV.out]⟩, HW2.out⟩
      clear hdr
      go_wp2_with fail
      go_ret
      exact ⟨_, rfl, HF.out⟩
end Go.Proofs.Ytglmmodkflkkkaa.Ref
