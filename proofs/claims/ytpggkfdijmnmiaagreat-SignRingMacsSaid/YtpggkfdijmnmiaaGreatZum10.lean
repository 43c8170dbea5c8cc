/- A row of bytes of the call's own, out of a text's conversion or not: its frozen mark, if any, lies behind its last place. Condition: at most 2^47 bytes. A block's sixteen numbers, word by word. No condition but the block's length. One turn as the reference writes it. No condition. A row of words laid behind another. No condition but the length. A region that draws its order and ends in operations  -/
import Derived.Laws.IdiomStrings
import Derived.Lib.AppendZeros
import Derived.Test.YtpggkfdijmnmiaaGreatZum09
import Derived.Test.YtpggkfdijmnmiaaGreatZum07
import Derived.StillTail
import Derived.Test.YtpggkfdijmnmiaaGreatZum06
import Derived.BigQuiet
set_option linter.unusedVariables false
set_option linter.unusedSimpArgs false
set_option maxRecDepth 100000
namespace Go.Proofs.YtpggkfdijmnmiaaGreat.Hs
open Go.RowKit Go.Sort
def bl (l : List UInt8) : List Value := l.map fun x => Value.int .u8 (x.toNat : Int)
theorem bl_bs (l : List UInt8) : (bl l).toArray = bs l := rfl
theorem bl_len (l : List UInt8) : (bl l).length = l.length := by simp [bl]
theorem bl_one (l : List UInt8) : ∀ v ∈ bl l, v.oneCell' = true := by
  intro v hv
  simp [bl] at hv
  obtain ⟨a, _, rfl⟩ := hv
  rfl
theorem bl_app (a b : List UInt8) : bl (a ++ b) = bl a ++ bl b := by simp [bl]
def Off (fz : Nat × Nat) (n : Nat) : Prop := fz.2 = 0 ∨ n ≤ fz.1
theorem run_storeM (P : Program) (g o : Nat) (t : TypeId) (fz : Nat × Nat) : ∀ (vs : List Value) (i : Nat) (cur : Array Value) (w : World), w.heap[g]? = some (.cells cur t fz) → Off fz cur.size → o + i + vs.length ≤ cur.size → (∀ v ∈ vs, v.oneCell' = true) →
    (storeCells ⟨g, o, none⟩ vs i).run P w = .ok () (w.setRow g (cur.toList.take (o + i) ++ vs ++ cur.toList.drop (o + i + vs.length)).toArray)
  | [], i, cur, w, hg, _, _, _ => by
    simp only [storeCells, List.append_nil, List.length_nil, Nat.add_zero, List.take_append_drop, Array.toArray_toList]
    rw [setRow_self w g cur t fz hg]
    rfl
  | v :: rest, i, cur, w, hg, hfz, hl, h1 => by
    have hi : o + i < cur.size := by simp at hl; omega
    have hadd : (⟨g, o, none⟩ : Addr).add i = ⟨g, o + i, none⟩ := by unfold Addr.add; split <;> simp_all
    have hcell : w.cell? ⟨g, o + i, none⟩ = some cur[o + i] := by simp [World.cell?, hg, hi]
    have hfro : w.frozen? ⟨g, o + i, none⟩ = false := by
      obtain ⟨lo, hi'⟩ := fz
      simp only [World.frozen?, hg, Bool.and_eq_false_iff, decide_eq_false_iff_not]
      rcases hfz with h | h
      · right; simp only at h; omega
      · left; simp only at h; omega
    have hst : (store ((⟨g, o, none⟩ : Addr).add i) v).run P w = .ok () (w.setRow g (cur.setIfInBounds (o + i) v)) := by
      rw [hadd, run_store P w _ v _ (h1 v (by simp)), hcell]
      simp [hfro, setCell_eq_setRow w g (o + i) cur t fz v hg]
    have ih := run_storeM P g o t fz rest (i + 1) (cur.setIfInBounds (o + i) v) (w.setRow g (cur.setIfInBounds (o + i) v)) (setRow_heap w g cur _ t _ hg) (by simpa using hfz) (by simp at hl ⊢; omega) (fun x hx => h1 x (by simp [hx]))
    simp only [storeCells, Sem.run_bind, hst, Result.andThen_ok, ih, setRow_setRow]
    congr 3
    have e := list_seg_step cur.toList (o + i) v rest (by simp at hl ⊢; omega)
    simpa [Array.toList_setIfInBounds, Nat.add_assoc] using e
def Rm (B : Nat) (v : Value) (l : List UInt8) (w : World) : Prop :=
  ∃ g cap cur fz, v = .slice (some ⟨g, 0, none⟩) l.length cap ∧ B ≤ g ∧ w.heap[g]? = some (.cells cur 5 fz) ∧ Off fz cur.size ∧ l.length ≤ cap ∧ cap ≤ maxLen ∧ cur.size = cap ∧ cur.toList.take l.length = bl l
theorem Rm.below {B : Nat} {v : Value} {l : List UInt8} {w w' : World} (h : Rm B v l w) (hb : Below w.heap.size w w') : Rm B v l w' := by
  obtain ⟨g, cap, cur, fz, hv, hg, hh, rest⟩ := h
  exact ⟨g, cap, cur, fz, hv, hg, (hb.block _ (blk_lt hh)).trans hh, rest⟩
theorem Rm.un {B : Nat} {v : Value} {l : List UInt8} {w : World} (h : Rm B v l w) : ∃ g cap, v = .slice (some ⟨g, 0, none⟩) l.length cap ∧ B ≤ g ∧ g < w.heap.size ∧ (∃ cur fz, w.heap[g]? = some (.cells cur 5 fz)) ∧ ∀ i (hi : i < l.length), w.cell? ⟨g, i, none⟩ = some (.int .u8 (l[i].toNat : Int)) := by
  obtain ⟨g, cap, cur, fz, rfl, hg, hh, _, hlc, _, hcs, htk⟩ := h
  refine ⟨g, cap, rfl, hg, blk_lt hh, ⟨_, _, hh⟩, fun i hi => ?_⟩
  rw [blk_cell hh i]
  have h1 : (bl l)[i]? = some (.int .u8 (l[i].toNat : Int)) := by simp [bl, hi]
  rw [← htk, List.getElem?_take, if_pos hi] at h1
  simpa using h1
theorem Rm.conv {B : Nat} {v : Value} {l : List UInt8} {w : World} (h : Rm B v l w) : (convert 101 9 v).run Tryz.prog w = .ok (.string ⟨l.toArray⟩) w := by
  obtain ⟨g, cap, rfl, _, _, _, hc⟩ := h.un
  exact run_convert_bytes_back w 101 9 5 _ cap l Tryz.underlying101 Tryz.underlying5 Tryz.underlying9 (fun j hj => by rw [at0]; exact hc j hj)
theorem conv_m (s : List UInt8) (hs : s.length ≤ maxLen) (w : World) : ∃ v w', (convert 9 101 (.string ⟨s.toArray⟩)).run Tryz.prog w = .ok v w' ∧ Rm w.heap.size v s w' ∧ Below w.heap.size w w' := by
  refine ⟨_, _, run_bytes_of_string w 9 101 5 _ Tryz.underlying9 Tryz.underlying101 Tryz.underlying5, ⟨w.heap.size, _, _, _, by rw [size_ba], Nat.le_refl _, Go.heap_alloc_new w.drew _, .inr (Nat.le_refl _), ?_, ?_, ?_, ?_⟩, (Below.refl _ _).drew.alloc (Nat.le_refl _) _⟩
  · have := grownCap_ge w (⟨s.toArray⟩ : ByteArray).size 0 5; rwa [size_ba] at this
  · exact grownCap_le_maxLen _ _ _ _ hs
  · have := grownCap_ge w (⟨s.toArray⟩ : ByteArray).size 0 5
    rw [size_ba] at this
    simp [bytesRow, size_ba]; omega
  · simp [bytesRow, bl]
theorem app_m {ops : Array Oper} {rest : List Oper} {o : Oper} {a : Act} {Q : Exit → Act → World → Prop} {w : World} {B : Nat} {v : Value} {l : List UInt8} (nl : List UInt8) (bx c : Nat) (s x : Operand) (hgd : o.guard = none)
    (ho : o.op = .call { callee := .builtin .append, args := #[s, x], argTypes := #[101, 101] }) (hs : a.eval s = v) (hx : a.eval x = .slice (some ⟨bx, 0, none⟩) nl.length c) (hbx : w.heap[bx]? = some (.cells (bs nl) 5 (0, 0)))
    (hI : Rm B v l w) (hB : B ≤ w.heap.size) (hlen : l.length + nl.length ≤ 140737488355328)
    (h : ∀ v' w', Rm B v' (l ++ nl) w' → Below B w w' → (∀ k, k < w.heap.size → v.ownBlock ≠ some k → w'.heap[k]? = w.heap[k]?) → wpList Tryz.prog ops Q rest (a.put o.dst v') w') : wpList Tryz.prog ops Q (o :: rest) a w := by
  obtain ⟨i0, hi, hz0, hz1, hz2⟩ := info_parts infoByte
  have HI := hI
  obtain ⟨g, cap, cur, fz, rfl, hbg, hg, hoff, hlc, hcm, hcs, htk⟩ := hI
  have hnews : ∀ j u, (bl nl)[j]? = some u → w.cell? ((⟨bx, 0, none⟩ : Addr).add j) = some u := fun j u hu => by
    rw [at0, blk_cell hbx, ← bl_bs]; simpa using hu
  have hgw := blk_lt hg
  by_cases hroom : l.length + nl.length ≤ cap
  · have hf := run_firstCells_some (P := Tryz.prog) w 1 nl.length ⟨bx, 0, none⟩ nl.length c (bl nl) (by rw [bl_len, Nat.mul_one]) hnews
    have hst := run_storeM Tryz.prog g l.length 5 fz (bl nl) 0 cur w hg hoff (by rw [bl_len]; omega) (bl_one nl)
    simp only [Nat.add_zero] at hst
    have hr : (Builtin.append_ #[101, 101] o.type #[.slice (some ⟨g, 0, none⟩) l.length cap, .slice (some ⟨bx, 0, none⟩) nl.length c]).run Tryz.prog w = .ok (.slice (some ⟨g, 0, none⟩) (l.length + nl.length) cap) (w.setRow g (cur.toList.take l.length ++ bl nl ++ cur.toList.drop (l.length + (bl nl).length)).toArray) := by
      simp [Builtin.append_, run_underlying Tryz.underlying101, sizeOf, typeInfo, hi, hz1, Builtin.lenOf, hroom, hf, Addr.add_lit, hst]
    refine Lib.wpList_append_run w hgd s x 101 101 ho _ _ hs hx _ _ hr (h _ _ ?_ ?_ ?_)
    · refine ⟨g, cap, _, fz, by rw [List.length_append], hbg, setRow_heap w g cur _ 5 _ hg, ?_, by rw [List.length_append]; exact hroom, hcm, ?_, ?_⟩
      · have e : (cur.toList.take l.length ++ bl nl ++ cur.toList.drop (l.length + (bl nl).length)).toArray.size = cur.size := by simp [bl_len]; omega
        rw [e]; exact hoff
      · simp [bl_len]; omega
      · rw [htk, ← bl_app, ← bl_len (l ++ nl)]; simp only []; exact List.take_left
    · exact ⟨rfl, rfl, rfl, by rw [setRow_size]; exact Nat.le_refl _, fun k hk => setRow_other w g k _ (by omega)⟩
    · exact fun k _ hk => setRow_other w g k _ (fun e => hk (by simp [Value.ownBlock, e]))
  · obtain ⟨_, _, _, _, _, _, hc⟩ := HI.un
    have holds : ∀ j u, (bl l)[j]? = some u → w.cell? ((⟨g, 0, none⟩ : Addr).add j) = some u := fun j u hu => by
      rw [at0, blk_cell hg j]
      rw [← htk, List.getElem?_take] at hu
      split at hu
      · simpa using hu
      · cases hu
    have hr := run_append_grow (P := Tryz.prog) w 101 o.type 5 i0 (.int .u8 0) Tryz.underlying101 hi hz0 ⟨g, 0, none⟩ l.length cap (bl l) (by rw [bl_len, hz1, Nat.mul_one]) holds ⟨bx, 0, none⟩ nl.length c (bl nl) (by rw [bl_len, hz1, Nat.mul_one]) hnews (by omega) (by omega) (by rw [hz2]; exact growslice_fits (by omega) (by omega))
    have hge := grownCap_ge w (l.length + nl.length) cap 5
    refine Lib.wpList_append_run w hgd s x 101 101 ho _ _ hs hx _ _ hr (h _ _ ?_ ?_ ?_)
    · refine ⟨w.heap.size, _, _, (0, 0), by rw [List.length_append], hB, Go.heap_alloc_new w.drew _, .inl rfl, by rw [List.length_append]; exact hge, grownCap_le_maxLen w _ cap 5 (by unfold maxLen; omega), ?_, ?_⟩
      · have hz1' : (Value.int IntKind.u8 0).cells.size = 1 := rfl
        simp only [Array.size_append, List.size_toArray, size_zeroCells, hz1', bl_len]
        omega
      · simp only [Array.toList_append, List.append_assoc]
        rw [← List.append_assoc, ← bl_app, ← bl_len (l ++ nl)]
        exact List.take_left
    · exact (Below.refl _ _).drew.alloc hB _
    · exact fun k hk _ => Below.heap_alloc w.drew _ k hk
end Go.Proofs.YtpggkfdijmnmiaaGreat.Hs
namespace Go.Proofs.YtpggkfdijmnmiaaGreat.Hs
theorem numsTo_succ (b : List UInt8) (n : Nat) : numsTo b (n + 1) = nstep b (numsTo b n) n := by
  simp [numsTo, List.range_succ]
theorem numsTo_len (b : List UInt8) (n : Nat) : (numsTo b n).length = 16 := by
  induction n with
  | zero => simp [numsTo]
  | succ n ih => rw [numsTo_succ, nstep, List.length_set, ih]
theorem nums_zero (b : List UInt8) (k : Nat) : ∀ n, n ≤ 4 * k → (numsTo b n).getD k 0 = 0
  | 0, _ => by
    simp only [numsTo, List.range_zero, List.foldl_nil]
    rw [List.getD_eq_getElem?_getD, List.getElem?_replicate]
    split <;> rfl
  | n + 1, h => by
    rw [numsTo_succ, nstep, List.getD_eq_getElem?_getD, List.getElem?_set_ne (by omega), ← List.getD_eq_getElem?_getD]
    exact nums_zero b k n (by omega)
def word4 (a b c d : UInt8) : UInt32 := UInt32.ofNat (a.toNat * 16777216 + b.toNat * 65536 + c.toNat * 256 + d.toNat)
theorem sh8_4 (a b c d : UInt8) : sh8 (sh8 (sh8 (sh8 0 a) b) c) d = word4 a b c d := by
  have ha := a.toNat_lt
  have hb := b.toNat_lt
  have hc := c.toNat_lt
  have hd := d.toNat_lt
  apply UInt32.toNat_inj.1
  simp only [sh8, word4, UInt32.toNat_ofNat', UInt32.toNat_zero]
  omega
theorem word4_nat (a b c d : UInt8) : (word4 a b c d).toNat = a.toNat * 16777216 + b.toNat * 65536 + c.toNat * 256 + d.toNat := by
  have ha := a.toNat_lt
  have hb := b.toNat_lt
  have hc := c.toNat_lt
  have hd := d.toNat_lt
  rw [word4, UInt32.toNat_ofNat']
  omega
theorem nums_word (b : List UInt8) (i : Nat) (hi : i < 16) : numsTo b (4 * (i + 1)) = (numsTo b (4 * i)).set i (word4 (b.getD (4 * i) 0) (b.getD (4 * i + 1) 0) (b.getD (4 * i + 2) 0) (b.getD (4 * i + 3) 0)) := by
  have h0 := nums_zero b i (4 * i) (Nat.le_refl _)
  have hl := numsTo_len b (4 * i)
  rw [show 4 * (i + 1) = 4 * i + 3 + 1 from by omega, numsTo_succ, show 4 * i + 3 = 4 * i + 2 + 1 from by omega, numsTo_succ, show 4 * i + 2 = 4 * i + 1 + 1 from by omega, numsTo_succ, numsTo_succ]
  simp only [nstep]
  rw [show (4 * i + 1 + 1 + 1) / 4 = i from by omega, show (4 * i + 1 + 1) / 4 = i from by omega, show (4 * i + 1) / 4 = i from by omega, show 4 * i / 4 = i from by omega]
  generalize numsTo b (4 * i) = l at h0 hl
  have hg : ∀ (m : List UInt32) (x : UInt32), m.length = 16 → (m.set i x).getD i 0 = x := fun m x hm => by
    rw [List.getD_eq_getElem?_getD, List.getElem?_set_self (by omega)]; rfl
  simp only [List.set_set]
  rw [hg _ _ hl, hg _ _ hl, hg _ _ hl, h0]
  rw [sh8_4]
def wTo (b : List UInt8) (i : Nat) : List UInt32 := numsTo b (4 * i) ++ List.replicate 48 0
theorem wTo_len (b : List UInt8) (i : Nat) : (wTo b i).length = 64 := by simp [wTo, numsTo_len]
theorem wTo_0 (b : List UInt8) : wTo b 0 = List.replicate 64 0 := by
  simp only [wTo, numsTo, Nat.mul_zero, List.range_zero, List.foldl_nil]
  rw [List.replicate_append_replicate]
theorem wTo_succ (b : List UInt8) (i : Nat) (hi : i < 16) : (wTo b i).set i (word4 (b.getD (4 * i) 0) (b.getD (4 * i + 1) 0) (b.getD (4 * i + 2) 0) (b.getD (4 * i + 3) 0)) = wTo b (i + 1) := by
  unfold wTo
  rw [nums_word b i hi, List.set_append_left _ _ (by rw [numsTo_len]; exact hi)]
theorem wTo_16 (b : List UInt8) : wTo b 16 = spreadTo (numsL b) 16 := by
  simp [wTo, spreadTo, numsL]
theorem chunk_get (p : List UInt8) (o i : Nat) (hi : i < 64) (h : o + i < p.length) : ((p.drop o).take 64).getD i 0 = p[o + i]'h := by
  rw [List.getD_eq_getElem?_getD, List.getElem?_take, if_pos hi, List.getElem?_drop, List.getElem?_eq_getElem h]
  rfl
theorem ch_w (e f g : UInt32) : e &&& f ^^^ (4294967295 ^^^ e) &&& g = Ch e f g := by
  unfold Ch
  have h : ∀ (x y z : BitVec 32), x &&& y ^^^ (4294967295#32 ^^^ x) &&& z = x &&& y ^^^ z &&& ~~~x := by
    intro x y z
    apply BitVec.eq_of_getLsbD_eq
    intro i hi
    have h1 : (4294967295#32).getLsbD i = true := by
      rw [show (4294967295#32) = BitVec.allOnes 32 from rfl, BitVec.getLsbD_allOnes]; simpa using hi
    simp only [BitVec.getLsbD_xor, BitVec.getLsbD_and, BitVec.getLsbD_not, h1, hi, decide_true, Bool.true_and]
    cases x.getLsbD i <;> cases y.getLsbD i <;> cases z.getLsbD i <;> rfl
  apply UInt32.toBitVec_inj.1
  simp only [UInt32.toBitVec_xor, UInt32.toBitVec_and, UInt32.toBitVec_not]
  exact h _ _ _
end Go.Proofs.YtpggkfdijmnmiaaGreat.Hs
namespace Go.Proofs.YtpggkfdijmnmiaaGreat.Hs
theorem turn_ref (a b c d e f g h k n : UInt32) : turnL [a, b, c, d, e, f, g, h] (k + n) =
    [(h + S1 e + (e &&& f ^^^ (4294967295 ^^^ e) &&& g) + k + n) + (S0 a + Maj a b c), a, b, c, d + (h + S1 e + (e &&& f ^^^ (4294967295 ^^^ e) &&& g) + k + n), e, f, g] := by
  rw [ch_w]
  simp only [turnL, UInt32.add_assoc]
theorem eight (l : List UInt32) (h : l.length = 8) : ∃ a b c d e f g i, l = [a, b, c, d, e, f, g, i] := by
  match l, h with
  | [a, b, c, d, e, f, g, i], _ => exact ⟨a, b, c, d, e, f, g, i, rfl⟩
theorem next_zip (h : List UInt32) (hl : h.length = 8) (b : List UInt8) : zipTo h (turnsTo (spreadL (numsL b)) h 64) 8 = nextL h b := by
  rw [zipTo_all _ _ hl (turns_length _ _ hl _), nextL]
  apply List.ext_getElem
  · simp [Nat.min_comm]
  · intro i h1 h2
    simp [UInt32.add_comm]
theorem zip_0 (v h : List UInt32) : zipTo v h 0 = v := by simp [zipTo]
theorem thr_len : ∀ (n : Nat) (h : List UInt32) (s : List UInt8), h.length = 8 → (thrL n h s).length = 8
  | 0, h, s, hl => hl
  | n + 1, h, s, hl => thr_len n _ _ (by unfold nextL; simp [turns_length _ _ hl, hl])
end Go.Proofs.YtpggkfdijmnmiaaGreat.Hs
namespace Go.Proofs.YtpggkfdijmnmiaaGreat.Hs
open Go.RowKit Go.Sort
theorem app_kl {ops : Array Oper} {rest : List Oper} {o : Oper} {a : Act} {Q : Exit → Act → World → Prop} {w : World} {B : Nat} {v : Value} {l : List UInt32} (nl : List UInt32) (bx c : Nat) (s x : Operand) (hgd : o.guard = none)
    (ho : o.op = .call { callee := .builtin .append, args := #[s, x], argTypes := #[69, 69] }) (hs : a.eval s = v) (hx : a.eval x = .slice (some ⟨bx, 0, none⟩) nl.length c) (hbx : w.heap[bx]? = some (.cells (ws nl) 111 (0, 0)))
    (hI : Rk B v l w) (hB : B ≤ w.heap.size) (hlen : l.length + nl.length ≤ 1000)
    (h : ∀ v' w', Rk B v' (l ++ nl) w' → Below B w w' → wpList Tryz.prog ops Q rest (a.put o.dst v') w') : wpList Tryz.prog ops Q (o :: rest) a w := by
  obtain ⟨i0, hi, hz0, hz1, hz2⟩ := info_parts info35
  refine wpList_append_own _ hgd s x 69 ho B 111 i0 (.int .u32 0) 1 4 Tryz.underlying69 hi hz0 hz1 hz2 rfl (by decide) v l.length _ hs hI ⟨bx, 0, none⟩ nl.length c (wl nl) hx (by rw [wl_length, Nat.mul_one]) (World.news_of_block hbx) (wl_one nl) (by unfold maxLen; omega) (by omega) hB ?_
  intro v' w' h1 h2 _
  refine h v' w' ?_ ((Below.refl _ _).grown h2 hB (fun g hk => (World.ownsRow.lt hI g hk).1))
  unfold Rk
  rw [List.length_append]
  have e : cw (l ++ nl) = cw l ++ wl nl := by simp [cw, wl]
  rw [e]
  exact h1
def C8 (w : World) (g : Nat) (l : List UInt32) : Prop := ∀ i, i < 8 → w.cell? ⟨g, i, none⟩ = some (.int .u32 ((l.getD i 0).toNat : Int))
theorem Rk.c8 {B : Nat} {v : Value} {l : List UInt32} {w : World} (h : Rk B v l w) (hl : l.length = 8) : ∃ g cap, v = .slice (some ⟨g, 0, none⟩) 8 cap ∧ B ≤ g ∧ g < w.heap.size ∧ C8 w g l := by
  obtain ⟨g, cap, hv, hg, hc⟩ := h.un (by intro e; rw [e] at hl; simp at hl)
  refine ⟨g, cap, by rw [hv, hl], hg, ?_, fun i hi => ?_⟩
  · rcases h.2 with ⟨rfl, h0⟩ | ⟨g', cap', cur, e, hg', hh, _⟩
    · cases hv
    · rw [hv] at e
      cases e
      exact blk_lt hh
  · rw [hc i (by omega)]
    simp [List.getD, show i < l.length by omega]
theorem C8.block {w : World} {g : Nat} {l : List UInt32} (h : w.heap[g]? = some (.cells (ws l) 111 (0, 0))) (hl : l.length = 8) : C8 w g l := fun i hi => by
  rw [blk_cell h, ws_get _ _ (by omega)]
  simp [List.getD, show i < l.length by omega]
theorem C8.below {w w' : World} {g : Nat} {l : List UInt32} (h : C8 w g l) (hb : Below w.heap.size w w') (hg : g < w.heap.size) : C8 w' g l := fun i hi => by
  rw [hb.cell (p := ⟨g, i, none⟩) hg]; exact h i hi
end Go.Proofs.YtpggkfdijmnmiaaGreat.Hs
namespace Go.Proofs.YtpggkfdijmnmiaaGreat.Hs
open Go.RowKit Go.Sort
section
variable {P : Program} {ops : Array Oper} {md : Region.Mode} {C : World → Prop}
def headQ (P : Program) (md : Region.Mode) (ops : Array Oper) (C : World → Prop) (n : Nat) (L : Array Bool → Act → Prop) : Nat → Array Bool → Act → Prop
  | 0, ls, a => L ls a
  | f + 1, ls, a => Region.ready md ops ls ≠ [] ∧ ∀ i, i ∈ Region.ready md ops ls → i < n ∧ qOp P ops C i (headQ P md ops C n L f (ls.setIfInBounds i true)) a
theorem any_of_headQ {n g : Nat} {L : Array Bool → Act → Prop} {Q : Exit → Act → World → Prop} (hL : ∀ ls a w, C w → L ls a → wpAny P md ops Q g ls a w) (f : Nat) :
    ∀ (ls : Array Bool) (a : Act) (w : World), C w → headQ P md ops C n L f ls a → wpAny P md ops Q (f + g) ls a w := by
  induction f with
  | zero => intro ls a w hw h; rw [Nat.zero_add]; exact hL _ _ _ hw h
  | succ f ih =>
    intro ls a w hw h
    rw [Nat.succ_add]
    exact ⟨fun h0 => absurd h0 h.1, fun i hi => wpOp_of_qOp hw (fun a' w' hw' h' => ih _ a' w' hw' h') (h.2 i hi).2⟩
theorem headQ_first {n i : Nat} {oi : Oper} {v : Value} {L : Array Bool → Act → Prop} (hi : ops[i]? = some oi) (hsel : ∀ (j : Nat) (o : Oper) cs b, ops[j]? = some o → o.op ≠ .select cs b)
    (hs : Region.sinkB md ops n = true) (hc : Region.chainB md ops n = true) (hn : n < ops.size) (hin : i < n) (hdone : ∀ ls a, L ls a → ∀ j ∈ Region.ready md ops ls, n ≤ j) (f : Nat) :
    ∀ (ls : Array Bool) (a : Act), HeadInv md ops n ls → (∀ j oj, ops[j]? = some oj → j ≠ i → ls.getD j true = false → (∀ e ∈ oj.after, Region.binds md e = true → e.on ≠ i) → oi.apart ops oj = true) →
      i ∈ Region.ready md ops ls → YieldsIn P ops C oi v a → headQ P md ops C n L f (ls.setIfInBounds i true) (a.put oi.dst v) → headQ P md ops C n L (f + 1) ls a := by
  induction f with
  | zero =>
    intro ls a inv _ hr hy H
    have hun := (mem_ready.1 hr).1
    refine ⟨fun h => (by rw [h] at hr; cases hr), fun j hj => ?_⟩
    have hjn : j < n := Nat.lt_of_not_le fun h => tail_waits hs hc hn inv _ i rfl hin hun j h hj
    refine ⟨hjn, ?_⟩
    by_cases hji : j = i
    · subst hji; exact hy.qOp hi H
    · have := hdone _ _ H j (ready_mono hj hji)
      omega
  | succ f ih =>
    intro ls a inv hfree hr hy H
    have hun := (mem_ready.1 hr).1
    refine ⟨fun h => (by rw [h] at hr; cases hr), fun j hj => ?_⟩
    have hjn : j < n := Nat.lt_of_not_le fun h => tail_waits hs hc hn inv _ i rfl hin hun j h hj
    refine ⟨hjn, ?_⟩
    by_cases hji : j = i
    · subst hji; exact hy.qOp hi H
    · obtain ⟨hjun, oj, hoj, hall⟩ := mem_ready.1 hj
      have hnot : ∀ e ∈ oj.after, Region.binds md e = true → e.on ≠ i := fun e he hb heq => by
        have h1 := hall e he hb
        rw [heq, getD_both hun] at h1
        cases h1
      have h2 := qOp_put hoj (hfree j oj hoj hji hjun hnot) (fun cs b => hsel i oi cs b hi) (fun cs b => hsel j oj cs b hoj) hy (H.2 j (ready_mono hj hji)).2
      refine qOp_mono (fun a' h3 => ih _ a' (inv.set hj hjn) (fun k ok hk hki hu hno => hfree k ok hk hki ?_ hno) (ready_mono hr (Ne.symm hji)) h3.1 ?_) h2
      · by_cases hjk : j = k
        · subst hjk; exact hjun
        · rw [getD_set_ne true hjk] at hu; exact hu
      · rw [Array.setIfInBounds_comm _ _ hji]; exact h3.2
theorem headQ_lex {n g : Nat} {F : Act → Prop} (hsel : Region.noSelect ops = true) (hs : Region.sinkB md ops n = true) (hc : Region.chainB md ops n = true) (hn : n < ops.size) :
    ∀ (l : List Oper) (k : Nat) (ls : Array Bool) (a : Act), (∀ j, j < l.length → l[j]? = ops[k + j]?) → k + l.length = n → HeadInv md ops n ls →
    Region.lexHead md ops g l.length k ls = true → wpQuiet P ops C F l a → headQ P md ops C n (fun ls' a' => Region.seqB md ops g n ls' = true ∧ F a') l.length ls a
  | [], k, ls, a, _, hk, _, hB, h => by
    obtain rfl : k = n := by simpa using hk
    exact ⟨by simpa [Region.lexHead] using hB, h⟩
  | o :: l, k, ls, a, hl, hk, inv, hB, h => by
    have h0 : ops[k]? = some o := by simpa using (hl 0 (by simp)).symm
    simp only [List.length_cons, Region.lexHead, Bool.and_eq_true] at hB hk
    obtain ⟨⟨hr, hf⟩, hB'⟩ := hB
    have hr' : k ∈ Region.ready md ops ls := by simpa using hr
    obtain ⟨v, hy, hK⟩ := yieldsIn_of_qOp (K := wpQuiet P ops C F l) h0 (by unfold qOp; simp only [h0]; exact h)
    exact headQ_first h0 (Region.noSelect_spec hsel) hs hc hn (by omega) (fun ls' a' hL => seqB_ready hL.1) l.length ls a inv (Region.free_spec h0 hf) hr' hy
      (headQ_lex hsel hs hc hn l (k + 1) _ _ (fun j hj => by have := hl (j + 1) (by simp; omega); simpa [Nat.add_assoc, Nat.add_comm 1 j] using this) (by omega) (inv.set hr' (by omega)) hB' hK)
theorem wp_region_below_tail {id : Nat} {Q : Exit → Act → World → Prop} {a : Act} {w : World} {l : List Oper} (n : Nat) (hm : P.follows .mixedOrders = true) (hB : Region.lexTailB .any l.toArray n = true)
    (h : wpQuiet P l.toArray (fun w' => ∃ p : Regrown, w' = grow (redrawn w p.d) p.os) (fun a' => ∀ w', (∃ p : Regrown, w' = grow (redrawn w p.d) p.os) → wpList P l.toArray Q (l.drop n) a' w') (l.take n) a) : (Code.region id l.toArray true).wp P Q a w := by
  simp only [Region.lexTailB, Bool.and_eq_true, decide_eq_true_eq] at hB
  obtain ⟨⟨⟨⟨hsel, hn⟩, hs⟩, hc⟩, hlex⟩ := hB
  have hn' : n < l.length := by simpa using hn
  have htl : (l.take n).length = n := by simp; omega
  have hdl : (l.drop n).length = l.toArray.size - n := by simp
  have inv0 : HeadInv .any l.toArray n (Array.replicate l.toArray.size false) :=
    ⟨by simp, fun j oj _ hl => (by rw [getD_replicate_false] at hl; cases hl), fun t _ ht => getD_in (by simpa using ht) (getD_replicate_false _ _)⟩
  have H := headQ_lex (md := .any) (g := l.toArray.size - n) hsel hs hc hn (l.take n) 0 _ a (fun j hj => by
    have hj' : j < n := by rw [htl] at hj; exact hj
    simp [hj']) (by simpa using htl) inv0 (by rw [htl]; exact hlex) h
  refine wp_region_any hm ?_
  have := any_of_headQ (Q := Q) (g := l.toArray.size - n) (fun ls a' w' hw' hL => by
    have := wpAny_of_seq (md := .any) (Q' := Q) (l.drop n) n ls a' w' (fun j => by simp [List.getElem?_drop]) (by rw [hdl]; exact hL.1) (hL.2 w' hw')
    rwa [hdl] at this) _ _ _ _ (show ∃ p : Regrown, _ = grow (redrawn w p.d) p.os from ⟨⟨w.drawn + 1, #[]⟩, by rw [grow_empty]⟩) H
  rw [htl, show n + (l.toArray.size - n) = l.toArray.size by omega] at this
  exact this
end
end Go.Proofs.YtpggkfdijmnmiaaGreat.Hs
namespace Go.Proofs.YtpggkfdijmnmiaaGreat.Hs
open Go.RowKit Go.Sort
section
variable {P : Program}
theorem wp_region_quiet_tail {id : Nat} {Q : Exit → Act → World → Prop} {a : Act} {w : World} {l : List Oper} (n : Nat) (hm : P.follows .mixedOrders = true) (hB : Region.lexTailB .any l.toArray n = true)
    (h : wpQuiet P l.toArray (fun w' => ∃ m : Nat, w' = w.drewN m) (fun a' => ∀ w', (∃ m : Nat, w' = w.drewN m) → wpList P l.toArray Q (l.drop n) a' w') (l.take n) a) : (Code.region id l.toArray true).wp P Q a w := by
  simp only [Region.lexTailB, Bool.and_eq_true, decide_eq_true_eq] at hB
  obtain ⟨⟨⟨⟨hsel, hn⟩, hs⟩, hc⟩, hlex⟩ := hB
  have hn' : n < l.length := by simpa using hn
  have htl : (l.take n).length = n := by simp; omega
  have hdl : (l.drop n).length = l.toArray.size - n := by simp
  have inv0 : HeadInv .any l.toArray n (Array.replicate l.toArray.size false) :=
    ⟨by simp, fun j oj _ hl => (by rw [getD_replicate_false] at hl; cases hl), fun t _ ht => getD_in (by simpa using ht) (getD_replicate_false _ _)⟩
  have H := headQ_lex (md := .any) (g := l.toArray.size - n) hsel hs hc hn (l.take n) 0 _ a (fun j hj => by
    have hj' : j < n := by rw [htl] at hj; exact hj
    simp [hj']) (by simpa using htl) inv0 (by rw [htl]; exact hlex) h
  refine wp_region_any hm ?_
  have := any_of_headQ (Q := Q) (g := l.toArray.size - n) (fun ls a' w' hw' hL => by
    have := wpAny_of_seq (md := .any) (Q' := Q) (l.drop n) n ls a' w' (fun j => by simp [List.getElem?_drop]) (by rw [hdl]; exact hL.1) (hL.2 w' hw')
    rwa [hdl] at this) _ _ _ _ (show ∃ m : Nat, w.drew = w.drewN m from ⟨1, rfl⟩) H
  rw [htl, show n + (l.toArray.size - n) = l.toArray.size by omega] at this
  exact this
end
end Go.Proofs.YtpggkfdijmnmiaaGreat.Hs
