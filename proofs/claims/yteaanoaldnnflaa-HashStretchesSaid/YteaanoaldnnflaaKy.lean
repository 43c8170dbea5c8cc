/- The document's own numbers: the roots of its primes. No condition. -/
import Derived.Test.YteaanoaldnnflaaPr
set_option linter.unusedVariables false
set_option linter.unusedSimpArgs false
namespace Go.Proofs.Yteaanoaldnnflaa
open Go.RowKit Go.Sort

/-- a row of words of the call's own -/
def cw (l : List UInt32) : List Value := l.map fun x => Value.int .u32 (x.toNat : Int)
def Rk (B : Nat) (v : Value) (l : List UInt32) (w : World) : Prop := w.ownsRow B 35 1 v l.length (cw l)
theorem Rk.snoc {B : Nat} {v : Value} {l : List UInt32} {w : World} {x : UInt32} (h : w.ownsRow B 35 1 v (l.length + 1) (cw l ++ [.int .u32 (x.toNat : Int)])) : Rk B v (l ++ [x]) w := by
  have e : cw (l ++ [x]) = cw l ++ [.int .u32 (x.toNat : Int)] := by simp [cw]
  unfold Rk
  rw [e]
  simpa using h
theorem Rk.below {B : Nat} {v : Value} {l : List UInt32} {w w' : World} (h : Rk B v l w) (hb : Below w.heap.size w w') : Rk B v l w' := by
  refine ⟨h.1, ?_⟩
  rcases h.2 with hn | ⟨g, cap, cur, hv, hg, hh, rest⟩
  · exact .inl hn
  · exact .inr ⟨g, cap, cur, hv, hg, (hb.block _ (blk_lt hh)).trans hh, rest⟩
theorem Rk.un {B : Nat} {v : Value} {l : List UInt32} {w : World} (h : Rk B v l w) (hl : l ≠ []) : ∃ g cap, v = .slice (some ⟨g, 0, none⟩) l.length cap ∧ B ≤ g ∧ ∀ i (hi : i < l.length), w.cell? ⟨g, i, none⟩ = some (.int .u32 (l[i].toNat : Int)) := by
  rcases h.2 with ⟨rfl, h0⟩ | ⟨g, cap, cur, rfl, hg, hh, _⟩
  · exact absurd (List.eq_nil_of_length_eq_zero h0) hl
  · refine ⟨g, cap, rfl, hg, fun i hi => ?_⟩
    have := World.ownsRow.cells h (g := g) rfl i (.int .u32 (l[i].toNat : Int)) (by simp [cw, hi])
    rwa [at0] at this

theorem info35 : (Try.prog.info? 35).map (fun i => (i.zero, i.size, i.bytes)) = some (some (.int .u32 0), 1, 4) := by kernel_rfl
theorem alloc_le (w : World) (o : Obj) : w.heap.size ≤ (w.alloc o).heap.size := by show w.heap.size ≤ (w.heap.push _).size; simp
theorem alloc_sz (w : World) (o : Obj) : (w.alloc o).heap.size = w.heap.size + 1 := by show (w.heap.push _).size = _; simp

/-- 'l = append(l, x)' -/
theorem app_k {ops : Array Oper} {rest : List Oper} {o : Oper} {a : Act} {Q : Exit → Act → World → Prop} {w W : World} {v : Value} {l : List UInt32} (n : UInt32) (s x : Operand) (hgd : o.guard = none)
    (ho : o.op = .call { callee := .builtin .append, args := #[s, x], argTypes := #[43, 43] }) (hs : a.eval s = v) (hx : a.eval x = .slice (some ⟨w.heap.size, 0, none⟩) 1 1)
    (hI : Rk W.heap.size v l w) (hb : Below W.heap.size W w) (hlen : l.length ≤ 1000)
    (h : ∀ v' w', Rk W.heap.size v' (l ++ [n]) w' → Below W.heap.size W w' → (∀ g, g < w.heap.size → v.ownBlock ≠ some g → w'.heap[g]? = w.heap[g]?) → wpList Try.prog ops Q rest (a.put o.dst v') w') : wpList Try.prog ops Q (o :: rest) a (w.alloc (.cells #[.int .u32 (n.toNat : Int)] 35)) := by
  obtain ⟨i0, hi, hz0, hz1, hz2⟩ := info_parts info35
  have hI' := hI.below (Below.alloc (Below.refl _ _) (Nat.le_refl _) (.cells #[.int .u32 (n.toNat : Int)] 35))
  have hsz := hb.size
  refine wpList_append_own _ hgd s x 43 ho W.heap.size 35 i0 (.int .u32 0) 1 4 Try.underlying43 hi hz0 hz1 hz2 rfl (by decide) v l.length _ hs hI' ⟨w.heap.size, 0, none⟩ 1 1 [.int .u32 (n.toNat : Int)] hx rfl (World.news_of_block (Go.heap_alloc_new w _)) (by simp [Value.oneCell']) (by unfold maxLen; omega) (by omega) (by simp; omega) ?_
  intro v' w' h1 h2 _
  exact h v' w' (Rk.snoc h1) ((hb.alloc (by omega) _).grown h2 (by simp; omega) (fun g hk => (World.ownsRow.lt hI' g hk).1)) (fun g hg hn => (h2.block g (Nat.lt_of_lt_of_le hg (alloc_le _ _)) (fun e => hn e.symm)).trans (Below.heap_alloc _ _ _ hg))
theorem Rk.not {B : Nat} {v : Value} {l : List UInt32} {w : World} (h : Rk B v l w) {g : Nat} {cur : Array Value} {f : Nat × Nat} (hh : w.heap[g]? = some (.cells cur 61 f)) : v.ownBlock ≠ some g := by
  rcases h.2 with ⟨rfl, h0⟩ | ⟨g', cap, cur', rfl, hg', hh', _⟩
  · intro e; cases e
  · intro e
    cases e
    rw [hh] at hh'
    cases hh'

theorem Ru.un' {B : Nat} {v : Value} {l : List Nat} {w : World} (h : Ru B v l w) (hl : l ≠ []) : ∃ g cap, v = .slice (some ⟨g, 0, none⟩) l.length cap ∧ (∃ cur f, w.heap[g]? = some (.cells cur 61 f)) ∧ ∀ i (hi : i < l.length), w.cell? ⟨g, i, none⟩ = some (.int .u64 (l[i] : Int)) := by
  obtain ⟨g, cap, e, hc⟩ := h.un hl
  rcases h.2 with ⟨rfl, h0⟩ | ⟨g', cap', cur, rfl, hg, hh, _⟩
  · exact absurd (List.eq_nil_of_length_eq_zero h0) hl
  · cases e
    exact ⟨_, _, rfl, ⟨_, _, hh⟩, hc⟩

/-- the roots of the first k of a list -/
def keyN (l : List Nat) (k : Nat) : List UInt32 := (l.take k).map fun p => rootW p 3
theorem keyN_succ (l : List Nat) (k : Nat) (h : k < l.length) : keyN l (k + 1) = keyN l k ++ [rootW l[k] 3] := by
  unfold keyN
  rw [List.take_succ_eq_append_getElem h, List.map_append]
  rfl
theorem keyN_len (l : List Nat) (k : Nat) (h : k ≤ l.length) : (keyN l k).length = k := by unfold keyN; simp; omega
theorem keyN_all : keyN (prL 312) 64 = kL := by
  have h : (prL 312).take 64 = prL 312 := by rw [← first64.1]; exact List.take_length
  unfold keyN
  rw [h]
  exact keys_ok
theorem pr_small : ∀ p ∈ prL 312, p < 65536 := fun p h => by have := (pr_ge 310 p h).2; omega

set_option maxHeartbeats 4000000 in
set_option maxRecDepth 100000 in
theorem keys_any (w : World) :
    Calls Try.prog 22 #[] w fun e w' => (∃ v, e = .returned v ∧ Rk w.heap.size v kL w') ∧ Below w.heap.size w w' := by
  go_enter Try.func22, Try.ntmps22
  go_wp2_with (go_at_call 35; refine (primes_any 64 312 first64 _).mono ?_; rintro e w2 ⟨⟨pv, rfl, hr⟩, hb⟩; have hk0 := (hb.block _ (by rw [alloc_sz]; omega)).trans (Go.heap_alloc_new w (.cells #[] 35)); have HK0 := Lib.hid hk0; clear hk0; have hb2 := (Below.alloc (Below.refl _ _) (Nat.le_refl _) _).trans (hb.mono (alloc_le _ _)); have HB2 := Lib.hid hb2; clear hb hb2; obtain ⟨g, cap, hv, hc⟩ := hr.un' (by intro e; have := first64.1; rw [e] at this; simp at this); obtain ⟨⟨cur, f, hcur⟩, hc⟩ := hc; have HC := Lib.hid hc; have HCU := Lib.hid hcur; rw [first64.1] at hv; subst hv; clear hc hr hcur)
  go_loopw [1, 3] (fun v i wr => ∃ k : Nat, k ≤ 64 ∧ i = .int .i64 k ∧ wr.heap[g]? = w2.heap[g]? ∧ Rk w.heap.size v (keyN (prL 312) k) wr ∧ Below w.heap.size w wr) (fun _ i _ => 64 - (intOf i).toNat)
  case atStart => exact ⟨0, by omega, rfl, rfl, ⟨rfl, .inr ⟨w.heap.size, 0, #[], rfl, Nat.le_refl _, HK0.out, Nat.le_refl _, Nat.zero_le _, rfl, rfl⟩⟩, HB2.out⟩
  case round =>
    clear HK0 HB2
    obtain ⟨k, hk, rfl, hp, hr, hb⟩ := hrel
    have HR := Lib.hid hr
    have HB := Lib.hid hb
    have HP := Lib.hid hp
    have hlen := keyN_len (prL 312) k (by rw [first64.1]; exact hk)
    have hlp := first64.1
    by_cases hk64 : k < 64
    · have ck := (World.cell?_of_block (w := w2) (w' := wr) (a := ⟨g, k, none⟩) hp).trans (HC.out k (by rw [hlp]; exact hk64))
      have hsm := pr_small _ (List.getElem_mem (l := prL 312) (n := k) (by rw [hlp]; exact hk64))
      have HS := Lib.hid (keyN_succ (prL 312) k (by rw [hlp]; exact hk64))
      generalize (prL 312)[k]'(by rw [hlp]; exact hk64) = p at ck HS hsm
      clear hp hr hb hlp
      generalize keyN (prL 312) k = l at HR HS hlen
      have HRT := Lib.hid (root_any p 3 hsm (.inr rfl))
      have HG := Lib.hid (blk_lt (HP.out.trans HCU.out))
      go_wp2_with (first | (go_at_call 36; refine (HRT.out _).mono ?_; rintro e w3 ⟨rfl, hb⟩; have HBR := Lib.hid hb; clear hb; obtain ⟨r, hrr⟩ : ∃ r, rootW p 3 = r := ⟨_, rfl⟩; rw [hrr] at HS; rw [hrr]; have hrl := r.toNat_lt) | (at_builtin; refine app_k r (.tmp 10) (.tmp 16) rfl rfl rfl rfl (HR.out.below (HBR.out.mono (by have := HB.out.size; omega))) (HB.out.trans (HBR.out.mono HB.out.size)) (by omega) ?_; intro v' w' hr3 hb3 hk3; have HR3 := Lib.hid hr3; have HB3 := Lib.hid hb3; have HK3 := Lib.hid (((hk3 g (Nat.lt_of_lt_of_le HG.out HBR.out.size) (HR.out.not (HP.out.trans HCU.out))).trans (HBR.out.block _ HG.out)).trans HP.out); clear hr3 hb3 hk3))
      exact ⟨⟨k + 1, by omega, by go_num, HK3.out, by rw [HS.out]; exact HR3.out, HB3.out⟩, by simp [intOf]; omega⟩
    · obtain rfl : k = 64 := by omega
      rw [keyN_all] at HR
      go_wp2_with fail
      go_ret
      exact ⟨⟨_, rfl, HR.out⟩, HB.out⟩
end Go.Proofs.Yteaanoaldnnflaa
