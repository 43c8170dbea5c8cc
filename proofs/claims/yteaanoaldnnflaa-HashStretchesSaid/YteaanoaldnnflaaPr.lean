/- The document's own primes: the first 8, the first 64. No condition. -/
import Derived.Test.YteaanoaldnnflaaRo
import Derived.Deep.AppendLies
set_option linter.unusedVariables false
set_option linter.unusedSimpArgs false
namespace Go.Proofs.Yteaanoaldnnflaa
open Go.RowKit Go.Sort

theorem pr_succ (p : Nat) (h : 2 ≤ p) : prL (p + 1) = prStep (prL p) p := by
  unfold prL
  rw [show p + 1 - 2 = (p - 2) + 1 from by omega, List.range'_concat, List.foldl_append]
  simp only [List.foldl_cons, List.foldl_nil]
  rw [show 2 + 1 * (p - 2) = p from by omega]
theorem pr_len (l : List Nat) (p : Nat) : l.length ≤ (prStep l p).length := by
  unfold prStep
  split <;> simp
theorem pr_mono (p d : Nat) (h : 2 ≤ p) : (prL p).length ≤ (prL (p + d)).length := by
  induction d with
  | zero => exact Nat.le_refl _
  | succ d ih => rw [← Nat.add_assoc, pr_succ _ (by omega)]; exact Nat.le_trans ih (pr_len _ _)
theorem pr_ge : ∀ (d : Nat) (q : Nat), q ∈ prL (2 + d) → 2 ≤ q ∧ q < 2 + d
  | 0, q, h => by simp [prL] at h
  | d + 1, q, h => by
    rw [← Nat.add_assoc, pr_succ _ (by omega)] at h
    unfold prStep at h
    split at h
    · rcases List.mem_append.1 h with h1 | h1
      · have := pr_ge d q h1; omega
      · simp at h1; omega
    · have := pr_ge d q h; omega
/-- the first N primes are those below P -/
def First (N P : Nat) : Prop := (prL P).length = N ∧ (prL (P - 1)).length < N ∧ 3 ≤ P ∧ P ≤ 312
theorem first8 : First 8 20 := by unfold First; decide +kernel
theorem first64 : First 64 312 := by unfold First; decide +kernel
theorem first_lt {N P p : Nat} (h : First N P) (hp : 2 ≤ p) (hlt : p < P) : (prL p).length < N := by
  have := pr_mono p (P - 1 - p) hp
  rw [show p + (P - 1 - p) = P - 1 from by omega] at this
  have := h.2.1
  omega

/-- a row of numbers of the call's own -/
def cu (l : List Nat) : List Value := l.map fun (x : Nat) => Value.int .u64 (x : Int)
def Ru (B : Nat) (v : Value) (l : List Nat) (w : World) : Prop := w.ownsRow B 61 1 v l.length (cu l)
theorem Ru.snoc {B : Nat} {v : Value} {l : List Nat} {w : World} {x : Nat} (h : w.ownsRow B 61 1 v (l.length + 1) (cu l ++ [.int .u64 (x : Int)])) : Ru B v (l ++ [x]) w := by
  have e : cu (l ++ [x]) = cu l ++ [.int .u64 (x : Int)] := by simp [cu]
  unfold Ru
  rw [e]
  simpa using h
theorem Ru.below {B : Nat} {v : Value} {l : List Nat} {w w' : World} (h : Ru B v l w) (hb : Below w.heap.size w w') : Ru B v l w' := by
  refine ⟨h.1, ?_⟩
  rcases h.2 with hn | ⟨g, cap, cur, hv, hg, hh, rest⟩
  · exact .inl hn
  · exact .inr ⟨g, cap, cur, hv, hg, (hb.block _ (blk_lt hh)).trans hh, rest⟩
theorem Ru.un {B : Nat} {v : Value} {l : List Nat} {w : World} (h : Ru B v l w) (hl : l ≠ []) : ∃ g cap, v = .slice (some ⟨g, 0, none⟩) l.length cap ∧ ∀ i (hi : i < l.length), w.cell? ⟨g, i, none⟩ = some (.int .u64 (l[i] : Int)) := by
  rcases h.2 with ⟨rfl, h0⟩ | ⟨g, cap, cur, rfl, hg, hh, _⟩
  · exact absurd (List.eq_nil_of_length_eq_zero h0) hl
  · refine ⟨g, cap, rfl, fun i hi => ?_⟩
    have := World.ownsRow.cells h (g := g) rfl i (.int .u64 (l[i] : Int)) (by simp [cu, hi])
    rwa [at0] at this
theorem Ru.len {B : Nat} {v : Value} {l : List Nat} {w : World} (h : Ru B v l w) : ∃ a cap, v = .slice a l.length cap := by
  rcases h.2 with ⟨rfl, h0⟩ | ⟨g, cap, cur, rfl, hg, hh, _⟩
  · exact ⟨none, 0, by rw [h0]⟩
  · exact ⟨_, cap, rfl⟩

/-- 'l = append(l, x)' -/
theorem app_u {ops : Array Oper} {rest : List Oper} {o : Oper} {a : Act} {Q : Exit → Act → World → Prop} {w W : World} {v : Value} {l : List Nat} (n : Nat) (s x : Operand) (hgd : o.guard = none)
    (ho : o.op = .call { callee := .builtin .append, args := #[s, x], argTypes := #[64, 64] }) (hs : a.eval s = v) (hx : a.eval x = .slice (some ⟨w.heap.size, 0, none⟩) 1 1)
    (hI : Ru W.heap.size v l w) (hb : Below W.heap.size W w) (hlen : l.length ≤ 1000)
    (h : ∀ v' w', Ru W.heap.size v' (l ++ [n]) w' → Below W.heap.size W w' → wpList Try.prog ops Q rest (a.put o.dst v') w') : wpList Try.prog ops Q (o :: rest) a (w.alloc (.cells #[.int .u64 (n : Int)] 61)) := by
  obtain ⟨i0, hi, hz0, hz1, hz2⟩ := info_parts info61
  have hI' := hI.below (Below.alloc (Below.refl _ _) (Nat.le_refl _) (.cells #[.int .u64 (n : Int)] 61))
  have hsz := hb.size
  refine wpList_append_own _ hgd s x 64 ho W.heap.size 61 i0 (.int .u64 0) 1 8 Try.underlying64 hi hz0 hz1 hz2 rfl (by decide) v l.length _ hs hI' ⟨w.heap.size, 0, none⟩ 1 1 [.int .u64 (n : Int)] hx rfl (World.news_of_block (Go.heap_alloc_new w _)) (by simp [Value.oneCell']) (by unfold maxLen; omega) (by omega) (by simp; omega) ?_
  intro v' w' h1 h2 _
  exact h v' w' (Ru.snoc h1) ((hb.alloc (by omega) _).grown h2 (by simp; omega) (fun g hk => (World.ownsRow.lt hI' g hk).1))

/-- do none of the first k divide p? -/
def nod (l : List Nat) (p k : Nat) : Bool := (l.take k).all fun q => decide (p % q ≠ 0)
theorem nod_succ (l : List Nat) (p k : Nat) (h : k < l.length) : nod l p (k + 1) = (nod l p k && decide (p % l[k] ≠ 0)) := by
  unfold nod
  rw [List.take_succ_eq_append_getElem h, List.all_append]
  simp
theorem nod_all (l : List Nat) (p : Nat) : nod l p l.length = l.all fun q => decide (p % q ≠ 0) := by
  unfold nod; rw [List.take_length]

set_option maxHeartbeats 4000000 in
set_option maxRecDepth 100000 in
theorem primes_any (N P : Nat) (hF : First N P) (w : World) :
    Calls Try.prog 35 #[.int .i64 N] w fun e w' => (∃ v, e = .returned v ∧ Ru w.heap.size v (prL P) w') ∧ Below w.heap.size w w' := by
  have HF := Lib.hid hF
  clear hF
  go_enter Try.func35, Try.ntmps35
  go_wp2_with fail
  go_loopw [3, 4] (fun v p wr => ∃ q : Nat, 2 ≤ q ∧ q ≤ P ∧ p = .int .u64 q ∧ Ru w.heap.size v (prL q) wr ∧ Below w.heap.size w wr) (fun _ p _ => P - (intOf p).toNat)
  case atStart => exact ⟨2, by omega, by have := HF.out.2.2.1; omega, rfl, ⟨rfl, .inr ⟨w.heap.size, 0, #[], rfl, Nat.le_refl _, Go.heap_alloc_new w _, Nat.le_refl _, Nat.zero_le _, rfl, rfl⟩⟩, (Below.refl _ _).alloc (Nat.le_refl _) _⟩
  case round =>
    obtain ⟨q, hq, hqP, rfl, hr, hb⟩ := hrel
    have HR := Lib.hid hr
    have HB := Lib.hid hb
    have HQ := Lib.hid hqP
    have hq312 : q ≤ 312 := by have := HF.out.2.2.2; omega
    obtain ⟨ad, cap, hv⟩ := hr.len
    subst hv
    clear hr hb hqP
    by_cases hl : (prL q).length < N
    · have HPS := Lib.hid (pr_succ q hq)
      have HQL : Hid (q < P) := Lib.hid (by
        have := HQ.out
        rcases Nat.lt_or_ge q P with h | h
        · exact h
        · have e : q = P := by omega
          rw [e, HF.out.1] at hl; omega)
      have HGE := Lib.hid (fun x (hx : x ∈ prL q) => pr_ge (q - 2) x (by rwa [show 2 + (q - 2) = q from by omega]))
      have HNF : Hid ((prL q).length ≤ 1000) := Lib.hid (by
        have h1 := pr_mono q (312 - q) hq
        rw [show q + (312 - q) = 312 from by omega] at h1
        have h2 := first64.1
        omega)
      generalize prL q = l at HR HPS HGE hl HNF
      go_wp2_with fail
      go_loopw [5, 6] (fun b i wr => ∃ k : Nat, k ≤ l.length ∧ i = .int .i64 k ∧ b = .bool (nod l q k) ∧ Ru w.heap.size (.slice ad l.length cap) l wr ∧ Below w.heap.size w wr) (fun _ i _ => l.length - (intOf i).toNat)
      case atStart => exact ⟨0, by omega, rfl, rfl, HR.out, HB.out⟩
      case round =>
        obtain ⟨k, hk, rfl, rfl, hr, hb⟩ := hrel
        have HR2 := Lib.hid hr
        have HB2 := Lib.hid hb
        clear hr hb HR HB
        have hlN := HNF.out
        by_cases hkl : k < l.length
        · obtain ⟨g, cap2, hv, hc⟩ := HR2.out.un (by intro e; rw [e] at hkl; simp at hkl)
          simp only [Value.slice.injEq] at hv
          obtain ⟨rfl, -, rfl⟩ := hv
          have ck := hc k hkl
          have HS := Lib.hid (nod_succ l q k hkl)
          have hge := (HGE.out l[k] (List.getElem_mem hkl)).1
          generalize l[k] = x at ck HS hge
          clear hc
          cases hnd : nod l q k with
          | false =>
            rw [hnd] at HS
            have HND := Lib.hid hnd
            clear hnd
            go_wp2_with fail
            go_roundw
            case rel => exact ⟨k + 1, by omega, by go_num, by rw [HS.out]; rfl, HR2.out, HB2.out⟩
            case measure => simp [intOf]; omega
          | true =>
            rw [hnd] at HS
            have HND := Lib.hid hnd
            clear hnd
            have t1 : (q : Int).tmod (x : Int) = ((q % x : Nat) : Int) := by rw [Int.tmod_eq_emod_of_nonneg (by omega)]; simp
            have t2 : IntKind.u64.wrap ((q % x : Nat) : Int) = ((q % x : Nat) : Int) := IntWalk.u64_in _ (by have := Nat.mod_le q x; omega)
            have t3 : ¬ (x : Int) = 0 := by omega
            by_cases hm : q % x = 0
            · have HM : Hid (decide (q % x ≠ 0) = false) := Lib.hid (by simp [hm])
              rw [hm] at t1
              rw [HM.out] at HS
              clear hm t2 HM
              go_wp2_with fail
              exact ⟨⟨k + 1, by omega, by go_num, by rw [HS.out]; rfl, HR2.out, HB2.out⟩, by simp [intOf]; omega⟩
            · have HM : Hid (decide (q % x ≠ 0) = true) := Lib.hid (by simp [hm])
              rw [HM.out] at HS
              have t4 : ¬ ((q % x : Nat) : Int) = 0 := by omega
              clear hm HM
              generalize q % x = r at t1 t2 t4
              go_wp2_with fail
              exact ⟨⟨k + 1, by omega, by go_num, by rw [HS.out, show ((r : Int) != 0) = true from by simp only [bne_iff_ne, ne_eq]; exact t4]; rfl, HR2.out, HB2.out⟩, by simp [intOf]; omega⟩
        · have hk2 : k = l.length := by omega
          subst hk2
          have HA := Lib.hid (nod_all l q)
          clear hkl hk
          cases hnd : nod l q l.length with
          | false =>
            have HND := Lib.hid hnd
            rw [hnd] at HA
            have e : prL (q + 1) = l := by rw [HPS.out]; unfold prStep; rw [← HA.out]; rfl
            have HE := Lib.hid e
            clear e hnd
            go_wp2_with fail
            have := HQL.out
            exact ⟨⟨q + 1, by omega, by omega, by go_num, by rw [HE.out]; exact HR2.out, HB2.out⟩, by simp [intOf]; omega⟩
          | true =>
            have HND := Lib.hid hnd
            rw [hnd] at HA
            have e : prL (q + 1) = l ++ [q] := by rw [HPS.out]; unfold prStep; rw [← HA.out]; rfl
            have HE := Lib.hid e
            clear e hnd
            go_wp2_with (at_builtin; refine app_u q (.tmp 31) (.tmp 33) rfl rfl rfl rfl HR2.out HB2.out HNF.out ?_; intro v' w' hr3 hb3; have HR3 := Lib.hid hr3; have HB3 := Lib.hid hb3; clear hr3 hb3)
            have := HQL.out
            exact ⟨⟨q + 1, by omega, by omega, by go_num, by rw [HE.out]; exact HR3.out, HB3.out⟩, by simp [intOf]; omega⟩
    · have HL := Lib.hid hl
      have hqe : q = P := by
        rcases Nat.lt_or_ge q P with h | h
        · exact absurd (first_lt HF.out hq h) hl
        · have := HQ.out; omega
      subst hqe
      go_wp2_with fail
      go_ret
      exact ⟨⟨_, rfl, HR.out⟩, HB.out⟩
end Go.Proofs.Yteaanoaldnnflaa
