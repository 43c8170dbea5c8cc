/- What the document's own FromBase64 answers: the bytes of which the text is the base64url, or the error 11. Condition: at most 2097152 bytes. -/
import Derived.Test.YtlifnfchemiipaaDoorJ
namespace Go.Proofs.YtlifnfchemiipaaDoor
open Go.RowKit

theorem size_of' (l : List UInt8) : (⟨l.toArray⟩ : ByteArray).size = l.length := by
  show l.toArray.size = _
  simp
theorem infoInt : (Tryd.prog.info? 3).map (fun i => (i.zero, i.size, i.bytes)) = some (some (.int .i64 0), 1, 8) := by kernel_rfl
def intCells (l : List Nat) : List Value := l.map fun (n : Nat) => Value.int .i64 (n : Int)
/-- v is a slice of the call's own that holds the numbers l -/
def Ri (B : Nat) (v : Value) (l : List Nat) (w : World) : Prop := w.ownsRow B 3 1 v l.length (intCells l)
theorem Ri.drewN {B : Nat} {v : Value} {l : List Nat} {w : World} (h : Ri B v l w) (n : Nat) : Ri B v l (w.drewN n) := h
theorem Ri.below {B : Nat} {v : Value} {l : List Nat} {w w' : World} (h : Ri B v l w) (hb : Below w.heap.size w w') : Ri B v l w' := by
  refine ⟨h.1, ?_⟩
  rcases h.2 with hn | ⟨g, cap, cur, hv, hg, hh, rest⟩
  · exact .inl hn
  · exact .inr ⟨g, cap, cur, hv, hg, (hb.block _ (blk_lt hh)).trans hh, rest⟩
theorem Ri.alloc {B : Nat} {v : Value} {l : List Nat} {w : World} (h : Ri B v l w) (o : Obj) : Ri B v l (w.alloc o) := h.below ((Below.refl _ _).alloc (Nat.le_refl _) o)
theorem Ri.snoc {B : Nat} {v : Value} {l : List Nat} {w : World} {c : Nat} (h : w.ownsRow B 3 1 v (l.length + 1) (intCells l ++ [.int .i64 c])) : Ri B v (l ++ [c]) w := by
  have e : intCells (l ++ [c]) = intCells l ++ [.int .i64 c] := by simp [intCells]
  unfold Ri
  rw [e]
  simpa using h
theorem Ri.start (w : World) : Ri w.heap.size (.slice (some ⟨w.heap.size, 0, none⟩) 0 0) [] (w.alloc (.cells #[] 3)) :=
  ⟨rfl, .inr ⟨w.heap.size, 0, #[], rfl, Nat.le_refl _, heap_alloc_new w _, Nat.le_refl _, Nat.zero_le _, rfl, rfl⟩⟩
theorem Ri.others {B : Nat} {v : Value} {l : List Nat} {w w' : World} (h : Ri B v l w) (hk : Lib.OthersKept 5 none w w') : Ri B v l w' := by
  refine ⟨h.1, ?_⟩
  rcases h.2 with hn | ⟨g, cap, cur, hv, hg, hh, rest⟩
  · exact .inl hn
  · exact .inr ⟨g, cap, cur, hv, hg, hk g _ hh (by simp) (by intro c fz e; injection e with _ e; cases e), rest⟩

/-- 'l = append(l, n)' on a row of numbers of the call's own -/
theorem appI {ops : Array Oper} {rest : List Oper} {o : Oper} {a : Act} {Q : Exit → Act → World → Prop} {w W : World} {B : Nat} {v : Value} {l : List Nat} (n : Int) (c : Nat) (hn : n = (c : Int)) (s x : Operand) (hgd : o.guard = none)
    (ho : o.op = .call { callee := .builtin .append, args := #[s, x], argTypes := #[51, 51] }) (hs : a.eval s = v) (hx : a.eval x = .slice (some ⟨w.heap.size, 0, none⟩) 1 1)
    (hI : Ri B v l w) (hb : Below B W w) (hB : B ≤ W.heap.size) (hlen : l.length ≤ 281474976710)
    (h : ∀ v' w', Ri B v' (l ++ [c]) w' → Below B W w' → v' ≠ .slice none 0 0 → wpList Tryd.prog ops Q rest (a.put o.dst v') w') : wpList Tryd.prog ops Q (o :: rest) a (w.alloc (.cells #[.int .i64 n] 3)) := by
  subst hn
  obtain ⟨i0, hi, hz0, hz1, hz2⟩ := info_parts infoInt
  have hI' := hI.alloc (.cells #[.int .i64 (c : Int)] 3)
  have hsz := hb.size
  refine wpList_append_own _ hgd s x 51 ho B 3 i0 (.int .i64 0) 1 8 Tryd.underlying51 hi hz0 hz1 hz2 rfl (by decide) v l.length _ hs hI' ⟨w.heap.size, 0, none⟩ 1 1 [.int .i64 c] hx rfl (World.news_of_block (heap_alloc_new w _)) (by simp [Value.oneCell']) (by unfold maxLen; omega) (by omega) (by simp; omega) ?_
  intro v' w' h1 h2 h3
  exact h v' w' (Ri.snoc h1) ((hb.alloc (by omega) _).grown h2 (by simp; omega) (fun g hk => (World.ownsRow.lt hI' g hk).1)) (fun e => by simpa using (h3.1 e).2)

/-- 'b = append(b, c)', and what it leaves as it was -/
theorem app1k {ops : Array Oper} {rest : List Oper} {o : Oper} {a : Act} {Q : Exit → Act → World → Prop} {w W : World} {B : Nat} {v : Value} {l : List UInt8} (n : Int) (c : UInt8) (hn : n = (c.toNat : Int)) (s x : Operand) (hgd : o.guard = none)
    (ho : o.op = .call { callee := .builtin .append, args := #[s, x], argTypes := #[41, 41] }) (hs : a.eval s = v) (hx : a.eval x = .slice (some ⟨w.heap.size, 0, none⟩) 1 1)
    (hI : Rw B v l w) (hb : Below B W w) (hB : B ≤ W.heap.size) (hlen : l.length ≤ 281474976710)
    (h : ∀ v' w', Rw B v' (l ++ [c]) w' → Below B W w' → Lib.OthersKept 5 none w w' → wpList Tryd.prog ops Q rest (a.put o.dst v') w') : wpList Tryd.prog ops Q (o :: rest) a (w.alloc (.cells #[.int .u8 n] 5)) := by
  subst hn
  obtain ⟨i0, hi, hz0, hz1, hz2⟩ := info_parts infoByte
  have hI' := hI.alloc (.cells #[.int .u8 (c.toNat : Int)] 5)
  have hsz := hb.size
  refine wpList_append_own _ hgd s x 41 ho B 5 i0 (.int .u8 0) 1 1 Tryd.underlying41 hi hz0 hz1 hz2 rfl (by decide) v l.length _ hs hI' ⟨w.heap.size, 0, none⟩ 1 1 [.int .u8 c.toNat] hx rfl (World.news_of_block (heap_alloc_new w _)) (by simp [Value.oneCell']) (by unfold maxLen; omega) (by omega) (by simp; omega) ?_
  intro v' w' h1 h2 _
  refine h v' w' (Rw.snoc h1) (hI'.grown (hb.alloc (by omega) _) h2 hB) (((Lib.OthersKept.refl _ _ w).alloc _).grown h2 ?_)
  intro g hg
  rcases World.ownsRowF_of hI' |>.2 with ⟨rfl, _⟩ | ⟨g', cap, cur, fz, rfl, _, hh, _⟩
  · simp [Value.ownBlock] at hg
  · simp [Value.ownBlock] at hg
    subst hg
    exact ⟨cur, fz, hh⟩

theorem pl_six : ∀ n, n < 64 → pl (six n) = (n : Int) := by decide +kernel
theorem six_pl (c : UInt8) : 0 ≤ pl c → six (pl c).toNat = c := all_u8 (p := fun c => 0 ≤ pl c → six (pl c).toNat = c) (by decide +kernel) c
def b6 (p : Nat) : List Nat := [p / 32 % 2, p / 16 % 2, p / 8 % 2, p / 4 % 2, p / 2 % 2, p % 2]
/-- what the search among the first k characters tells -/
def upto (c : UInt8) (k : Nat) : Int := if 0 ≤ pl c ∧ pl c < (k : Int) then pl c else -1
theorem upto_zero (c : UInt8) : upto c 0 = -1 := by unfold upto; rw [if_neg (by omega)]
theorem upto_all (c : UInt8) : upto c 64 = pl c := by
  have := pl_bd c
  unfold upto; split <;> omega
theorem upto_hit (c : UInt8) (k : Nat) (hk : k < 64) (h : six k = c) : upto c (k + 1) = (k : Int) := by
  have := pl_six k hk
  rw [h] at this
  unfold upto; rw [if_pos (by omega)]; omega
theorem upto_miss (c : UInt8) (k : Nat) (h : six k ≠ c) : upto c (k + 1) = upto c k := by
  have h1 : pl c ≠ (k : Int) := by
    intro e
    have := six_pl c (by omega)
    rw [e] at this
    exact h (by simpa using this)
  unfold upto
  by_cases h2 : 0 ≤ pl c ∧ pl c < (k : Int)
  · rw [if_pos h2, if_pos (by omega)]
  · rw [if_neg h2, if_neg (by omega)]
/-- the bits of the first characters, all of them good -/
def bitsL (l : List UInt8) : List Nat := l.flatMap fun c => b6 (pl c).toNat
theorem bitsL_length (l : List UInt8) : (bitsL l).length = 6 * l.length := by
  induction l with
  | nil => rfl
  | cons x l ih => simp [bitsL, b6, List.flatMap_cons] at ih ⊢; omega
theorem bitsL_snoc (l : List UInt8) (c : UInt8) : bitsL (l ++ [c]) = bitsL l ++ b6 (pl c).toNat := by simp [bitsL]

/-- the number of bytes, and each of them -/
def bt (b : List Nat) (k : Nat) : Nat := b.getD k 0
def byteAt (b : List Nat) (q : Nat) : UInt8 := UInt8.ofNat (vb (bt b) (8 * q) 8)
def by8 (b : List Nat) : List UInt8 := (List.range (b.length / 8)).map (byteAt b)
def runB (l : List UInt8) : Option (List UInt8) := if ∃ c, c ∈ l ∧ pl c < 0 then none else if b64L (by8 (bitsL l)) = l then some (by8 (bitsL l)) else none

theorem mem_at (s : ByteArray) (k : Nat) (h : k < s.size) : s[k] ∈ s.data.toList := List.getElem_mem (l := s.data.toList) (by simpa using h)

theorem b6_le (p : Nat) : ∀ x, x ∈ b6 p → x ≤ 1 := by
  intro x hx
  simp only [b6, List.mem_cons, List.not_mem_nil, or_false] at hx
  omega
theorem bits_le (l : List UInt8) (j : Nat) : (bitsL l).getD j 0 ≤ 1 := by
  rw [List.getD_eq_getElem?_getD]
  by_cases h : j < (bitsL l).length
  · rw [List.getElem?_eq_getElem h]
    obtain ⟨c, _, hc⟩ := List.mem_flatMap.1 (List.getElem_mem h)
    exact b6_le _ _ hc
  · rw [List.getElem?_eq_none (by omega)]; simp

set_option maxHeartbeats 4000000 in
set_option maxRecDepth 100000 in
theorem rfromBase64_any (s : ByteArray) (w : World) (hs : s.size ≤ 2097152) :
    Calls Tryd.prog 17 #[.string s] w fun e w' => e = Two (runB s.data.toList) 11 ∧ Below w.heap.size w w' := by
  go_enter Tryd.func17, Tryd.ntmps17
  go_wp2
  go_loopw [4, 5] (fun v i wr => ∃ k : Nat, k ≤ s.size ∧ i = .int .i64 k ∧ (∀ c, c ∈ s.data.toList.take k → ¬ pl c < 0) ∧ v ≠ .slice none 0 0 ∧ Ri w.heap.size v (bitsL (s.data.toList.take k)) wr ∧ Below w.heap.size w wr) (fun _ i _ => s.size - (intOf i).toNat)
  case atStart => exact ⟨0, by omega, rfl, by simp, by simp, Ri.start w, (Below.refl _ _).alloc (Nat.le_refl _) _⟩
  case round =>
    obtain ⟨k, hk, rfl, hgood, hnn, hI, hb⟩ := hrel
    have HG := Lib.hid hgood
    have HNN := Lib.hid hnn
    clear hgood hnn
    by_cases hlt : k < s.size
    · obtain ⟨wo, rfl⟩ : ∃ wo : World, wo = wr := ⟨_, rfl⟩
      have h8 := s[k].toNat_lt
      go_wp2_with (fail)
      go_loopw [6, 7] (fun n j wi => ∃ m : Nat, m ≤ 64 ∧ j = .int .i64 m ∧ n = .int .i64 (upto s[k] m) ∧ Ri w.heap.size u4 (bitsL (s.data.toList.take k)) wi ∧ Below w.heap.size w wi) (fun _ j _ => 64 - (intOf j).toNat)
      case atStart => exact ⟨0, by omega, rfl, by rw [upto_zero], hI, hb⟩
      case round =>
        clear hI hb
        obtain ⟨m, hm, rfl, rfl, hI, hb⟩ := hrel
        obtain ⟨w1, rfl⟩ : ∃ w1 : World, w1 = wr := ⟨_, rfl⟩
        by_cases hlm : m < 64
        · have hm64 : (m : Int) < 64 := by omega
          have hk64 : (k : Int) < (s.size : Int) := by omega
          have hsix := six_at m hlm
          by_cases hc : six m = s[k]
          · have ht : ((({ data := #[65, 66, 67, 68, 69, 70, 71, 72, 73, 74, 75, 76, 77, 78, 79, 80, 81, 82, 83, 84, 85, 86, 87, 88, 89, 90, 97, 98, 99, 100, 101, 102, 103, 104, 105, 106, 107, 108, 109, 110, 111, 112, 113, 114, 115, 116, 117, 118, 119, 120, 121, 122, 48, 49, 50, 51, 52, 53, 54, 55, 56, 57, 45, 95] } : ByteArray)[m]'hlm).toNat : Int) = (s[k].toNat : Int) := by rw [hsix, hc]
            have hU := Lib.hid (upto_hit s[k] m hlm hc)
            have hT : (((({ data := #[65, 66, 67, 68, 69, 70, 71, 72, 73, 74, 75, 76, 77, 78, 79, 80, 81, 82, 83, 84, 85, 86, 87, 88, 89, 90, 97, 98, 99, 100, 101, 102, 103, 104, 105, 106, 107, 108, 109, 110, 111, 112, 113, 114, 115, 116, 117, 118, 119, 120, 121, 122, 48, 49, 50, 51, 52, 53, 54, 55, 56, 57, 45, 95] } : ByteArray)[m]'hlm).toNat : Int) == (s[k].toNat : Int)) = true := by rw [ht]; simp
            clear hc hsix ht
            go_wp2_with (fail)
            go_quiet (fail)
            rename_i nq
            go_wp2_with (fail)
            go_roundw
            case rel => exact ⟨m + 1, by omega, by go_num, by rw [hU.out], hI.drewN nq, below_drewN hb nq⟩
            case measure => simp [intOf]; omega
          · have ht : ¬ ((({ data := #[65, 66, 67, 68, 69, 70, 71, 72, 73, 74, 75, 76, 77, 78, 79, 80, 81, 82, 83, 84, 85, 86, 87, 88, 89, 90, 97, 98, 99, 100, 101, 102, 103, 104, 105, 106, 107, 108, 109, 110, 111, 112, 113, 114, 115, 116, 117, 118, 119, 120, 121, 122, 48, 49, 50, 51, 52, 53, 54, 55, 56, 57, 45, 95] } : ByteArray)[m]'hlm).toNat : Int) = (s[k].toNat : Int) := by
              rw [hsix]; intro e; exact hc (UInt8.toNat_inj.1 (by omega))
            have hU := Lib.hid (upto_miss s[k] m hc)
            have hT : (((({ data := #[65, 66, 67, 68, 69, 70, 71, 72, 73, 74, 75, 76, 77, 78, 79, 80, 81, 82, 83, 84, 85, 86, 87, 88, 89, 90, 97, 98, 99, 100, 101, 102, 103, 104, 105, 106, 107, 108, 109, 110, 111, 112, 113, 114, 115, 116, 117, 118, 119, 120, 121, 122, 48, 49, 50, 51, 52, 53, 54, 55, 56, 57, 45, 95] } : ByteArray)[m]'hlm).toNat : Int) == (s[k].toNat : Int)) = false := by simpa using ht
            clear hc hsix ht
            go_wp2_with (fail)
            go_quiet (fail)
            rename_i nq
            go_wp2_with (fail)
            go_roundw
            case rel => exact ⟨m + 1, by omega, by go_num, by rw [hU.out], hI.drewN nq, below_drewN hb nq⟩
            case measure => simp [intOf]; omega
        · obtain rfl : m = 64 := by omega
          have bp := pl_bd s[k]
          rw [upto_all]
          by_cases hn : pl s[k] < 0
          · have hR : runB s.data.toList = none := by rw [runB, if_pos ⟨s[k], mem_at s k hlt, hn⟩]
            have HR := Lib.hid hR
            clear hR
            go_wp2
            go_ret2
            exact ⟨by rw [HR.out]; rfl, hb⟩
          have hl3 : (bitsL (s.data.toList.take k)).length ≤ 28147497671 := by rw [bitsL_length]; simp; omega
          have hI0 := hI
          have hb0 := hb
          have ha1 : ∀ x : Int, 0 ≤ x → x < 64 → bits BinOp.and IntKind.i64 x 1 = x % 2 := fun x h0 h1 => and_int 1 x 1 (by omega) rfl h0 (by omega)
          have a32 := ha1 (pl s[k] / 32) (by omega) (by omega)
          have a16 := ha1 (pl s[k] / 16) (by omega) (by omega)
          have a8 := ha1 (pl s[k] / 8) (by omega) (by omega)
          have a4 := ha1 (pl s[k] / 4) (by omega) (by omega)
          have a2 := ha1 (pl s[k] / 2) (by omega) (by omega)
          have a1 := ha1 (pl s[k]) (by omega) (by omega)
          clear hI hb ha1
          have hn0 : (pl s[k] / 32) % 2 = (((pl s[k]).toNat / 32 % 2 : Nat) : Int) := by omega
          have HN0 := Lib.hid hn0
          clear hn0
          have hn1 : (pl s[k] / 16) % 2 = (((pl s[k]).toNat / 16 % 2 : Nat) : Int) := by omega
          have HN1 := Lib.hid hn1
          clear hn1
          have hn2 : (pl s[k] / 8) % 2 = (((pl s[k]).toNat / 8 % 2 : Nat) : Int) := by omega
          have HN2 := Lib.hid hn2
          clear hn2
          have hn3 : (pl s[k] / 4) % 2 = (((pl s[k]).toNat / 4 % 2 : Nat) : Int) := by omega
          have HN3 := Lib.hid hn3
          clear hn3
          have hn4 : (pl s[k] / 2) % 2 = (((pl s[k]).toNat / 2 % 2 : Nat) : Int) := by omega
          have HN4 := Lib.hid hn4
          clear hn4
          have hn5 : (pl s[k]) % 2 = (((pl s[k]).toNat % 2 : Nat) : Int) := by omega
          have HN5 := Lib.hid hn5
          clear hn5
          go_wp2_with (fail)
          refine wp_loop_rounds 7 ?_
          rw [rounds_succ]
          go_wp2_with (at_builtin; refine appI ((pl s[k] / 32) % 2) ((pl s[k]).toNat / 32 % 2) HN0.out _ _ rfl rfl rfl rfl hI0 hb0 (Nat.le_refl _) (by first | omega | (simp only [List.length_append, List.length_cons, List.length_nil]; omega)) ?_)
          intro v1 w1 hI1 hb1 hnn1
          have HNN1 := Lib.hid hnn1
          clear hnn1
          go_wp2_with (fail)
          skip
          rw [rounds_succ]
          go_wp2_with (at_builtin; refine appI ((pl s[k] / 16) % 2) ((pl s[k]).toNat / 16 % 2) HN1.out _ _ rfl rfl rfl rfl hI1 hb1 (Nat.le_refl _) (by first | omega | (simp only [List.length_append, List.length_cons, List.length_nil]; omega)) ?_)
          intro v2 w2 hI2 hb2 hnn2
          have HNN2 := Lib.hid hnn2
          clear hnn2
          go_wp2_with (fail)
          skip
          rw [rounds_succ]
          go_wp2_with (at_builtin; refine appI ((pl s[k] / 8) % 2) ((pl s[k]).toNat / 8 % 2) HN2.out _ _ rfl rfl rfl rfl hI2 hb2 (Nat.le_refl _) (by first | omega | (simp only [List.length_append, List.length_cons, List.length_nil]; omega)) ?_)
          intro v3 w3 hI3 hb3 hnn3
          have HNN3 := Lib.hid hnn3
          clear hnn3
          go_wp2_with (fail)
          skip
          rw [rounds_succ]
          go_wp2_with (at_builtin; refine appI ((pl s[k] / 4) % 2) ((pl s[k]).toNat / 4 % 2) HN3.out _ _ rfl rfl rfl rfl hI3 hb3 (Nat.le_refl _) (by first | omega | (simp only [List.length_append, List.length_cons, List.length_nil]; omega)) ?_)
          intro v4 w4 hI4 hb4 hnn4
          have HNN4 := Lib.hid hnn4
          clear hnn4
          go_wp2_with (fail)
          skip
          rw [rounds_succ]
          go_wp2_with (at_builtin; refine appI ((pl s[k] / 2) % 2) ((pl s[k]).toNat / 2 % 2) HN4.out _ _ rfl rfl rfl rfl hI4 hb4 (Nat.le_refl _) (by first | omega | (simp only [List.length_append, List.length_cons, List.length_nil]; omega)) ?_)
          intro v5 w5 hI5 hb5 hnn5
          have HNN5 := Lib.hid hnn5
          clear hnn5
          go_wp2_with (fail)
          skip
          rw [rounds_succ]
          go_wp2_with (at_builtin; refine appI ((pl s[k]) % 2) ((pl s[k]).toNat % 2) HN5.out _ _ rfl rfl rfl rfl hI5 hb5 (Nat.le_refl _) (by first | omega | (simp only [List.length_append, List.length_cons, List.length_nil]; omega)) ?_)
          intro v6 w6 hI6 hb6 hnn6
          have HNN6 := Lib.hid hnn6
          clear hnn6
          go_wp2_with (fail)

          have hfin : Ri w.heap.size v6 (bitsL (s.data.toList.take (k + 1))) w6 := by
            rw [take_snoc s k hlt, bitsL_snoc]
            simpa [b6] using hI6
          rw [rounds_succ]
          go_wp2_with (fail)
          go_roundw
          case rel =>
            refine ⟨k + 1, by omega, by go_num, ?_, HNN6.out, hfin, hb6⟩
            intro c hc
            rw [take_snoc s k hlt, List.mem_append] at hc
            rcases hc with hc | hc
            · have := HG.out c hc; omega
            · simp at hc; subst hc; omega
          case measure => simp [intOf]; omega
    · obtain rfl : k = s.size := by omega
      have hgd : ¬ ∃ c, c ∈ s.data.toList ∧ pl c < 0 := by
        rintro ⟨c, hc, h0⟩
        have := HG.out c (by rw [List.take_of_length_le (by simp)]; exact hc)
        omega
      have HGD := Lib.hid hgd
      rw [List.take_of_length_le (by simp)] at hI
      have hL := bitsL_length s.data.toList
      obtain ⟨L, hLe⟩ : ∃ L, bitsL s.data.toList = L := ⟨_, rfl⟩
      rw [hLe] at hI hL
      have HLe := Lib.hid hLe
      clear hLe hgd
      have hL2 : L.length ≤ 12582912 := by simp at hL; omega
      clear hL
      obtain ⟨g, cap, cur, rfl, hg, hh, hnc, hcm, hcs, htk⟩ : ∃ g cap cur, u4 = .slice (some ⟨g, 0, none⟩) L.length cap ∧ w.heap.size ≤ g ∧ wr.heap[g]? = some (.cells cur 3 (0, 0)) ∧ L.length ≤ cap ∧ cap ≤ maxLen ∧ cur.size = cap * 1 ∧ cur.toList.take (L.length * 1) = intCells L := by
        rcases hI.2 with ⟨hv, _⟩ | h
        · exact absurd hv HNN.out
        · exact h
      obtain ⟨wo, rfl⟩ : ∃ wo : World, wo = wr := ⟨_, rfl⟩
      clear hh hnc hcm hcs htk
      have hL1 : ∀ j, bt L j ≤ 1 := by
        intro j
        rw [← HLe.out]
        exact bits_le _ j
      have hgs := hb.size
      have hdk : decide ((s.size : Int) < (s.size : Int)) = false := by simp
      go_wp2_with (fail)
      have hb0 := hb.alloc hgs (.cells #[] 5)
      have hR0 : Rw w.heap.size (.slice (some ⟨wo.heap.size, 0, none⟩) 0 0) [] (wo.alloc (.cells #[] 5)) := ⟨rfl, .inr ⟨wo.heap.size, 0, #[], rfl, hgs, heap_alloc_new wo _, Nat.le_refl _, Nat.zero_le _, rfl, rfl⟩⟩
      have hI0 := hI.alloc (.cells #[] 5)
      clear hI hb
      go_loopw [9, 10] (fun y i wi => ∃ q : Nat, q ≤ L.length / 8 ∧ i = .int .i64 (8 * q : Nat) ∧ Rw w.heap.size y ((List.range q).map (byteAt L)) wi ∧ Ri w.heap.size (.slice (some ⟨g, 0, none⟩) L.length cap) L wi ∧ Below w.heap.size w wi) (fun _ i _ => L.length + 8 - (intOf i).toNat)
      case atStart => exact ⟨0, by omega, rfl, hR0, hI0, hb0⟩
      case round =>
        clear hR0 hI0 hb0
        obtain ⟨q, hq, rfl, hR, hI, hb⟩ := hrel
        obtain ⟨k, hk⟩ : ∃ k, 8 * q = k := ⟨_, rfl⟩
        rw [hk]
        have HK := Lib.hid hk
        have hk0 : k ≤ L.length := by omega
        clear hk
        obtain ⟨w2, rfl⟩ : ∃ w2 : World, w2 = wr := ⟨_, rfl⟩
        by_cases hlt : k + 8 ≤ L.length
        · have hlt' : (k : Int) + 8 ≤ (L.length : Int) := by omega
          go_wp2_with (fail)
          go_loop [11, 12] (fun n j => ∃ m : Nat, m ≤ 8 ∧ j = .int .i64 m ∧ n = .int .i64 (vb (bt L) k m)) (fun _ j => 8 - (intOf j).toNat)
          case atStart => exact ⟨0, by omega, rfl, rfl⟩
          case round =>
            obtain ⟨m, hm, rfl, rfl⟩ := hrel
            have hv := vb_lt (bt L) hL1 k m
            have hv2 : 2 ^ m ≤ 2 ^ 8 := Nat.pow_le_pow_right (by omega) hm
            have hv3 : vb (bt L) k m ≤ 256 := by omega
            have hbl := hL1 (k + m)
            clear hv hv2
            by_cases hlm : m < 8
            · have hkm : (k : Int) + (m : Int) < (L.length : Int) := by omega
              have hcell : w2.cell? ⟨g, k + m, none⟩ = some (.int .i64 (bt L (k + m) : Int)) := by
                have h := World.ownsRow.cells hI (g := g) rfl (k + m) (.int .i64 (bt L (k + m) : Int)) (by
                  simp only [bt, intCells, List.getElem?_map, List.getD_eq_getElem?_getD, List.getElem?_eq_getElem (show k + m < L.length by omega)]; rfl)
                have ea : (⟨g, 0, none⟩ : Addr).add (k + m) = ⟨g, k + m, none⟩ := by unfold Addr.add; split <;> simp_all
                rwa [ea] at h
              go_wp2_with (fail)
              go_round
              case rel => exact ⟨m + 1, by omega, by go_num, by rw [vb_succ]; go_num⟩
              case measure => simp [intOf]; omega
            · obtain rfl : m = 8 := by omega
              have hv4 : vb (bt L) k 8 < 256 := vb_lt (bt L) hL1 k 8
              have hbyte : ((vb (bt L) k 8 : Nat) : Int) = ((byteAt L q).toNat : Int) := by
                rw [byteAt, HK.out]; simp; omega
              have HX := Lib.hid hbyte
              clear hbyte hbl
              have hl3 : ((List.range q).map (byteAt L)).length ≤ 281474976710 := by simp; omega
              go_wp2_with (at_builtin; refine app1k _ (byteAt L q) HX.out _ _ rfl rfl rfl rfl hR hb (Nat.le_refl _) hl3 ?_)
              intro v3 w3 h3 hb3 ho3
              have hI3 := hI.others ho3
              have hq2 : q + 1 ≤ L.length / 8 := by have := HK.out; omega
              go_wp2
              go_roundw
              case rel =>
                refine ⟨q + 1, hq2, ?_, by rw [List.range_succ, List.map_append]; exact h3, hI3, hb3⟩
                have := HK.out
                congr 1; omega
              case measure => simp [intOf]; omega
        · have hq2 : q = L.length / 8 := by have := HK.out; omega
          have hcv := hR.conv
          have hY : Hid ((List.range q).map (byteAt L) = by8 L) := by rw [hq2]; exact Lib.hid rfl
          have hR64 := r64_eq (by8 L)
          have HB := Lib.hid hR64
          have hlen : (by8 L).length ≤ 2097152 := by simp [by8]; omega
          clear hR64 hq2
          rw [hY.out] at hcv
          by_cases hsame : b64L (by8 L) = s.data.toList
          · have HF : Hid (runB s.data.toList = some (by8 L)) := by
              have h1 := HGD.out
              rw [runB, if_neg h1, HLe.out, if_pos hsame]; exact Lib.hid rfl
            have hsz : (⟨(by8 L).toArray⟩ : ByteArray).size ≤ 2097152 := by rw [size_of']; exact hlen
            have HS := Lib.hid hsame
            clear hsame
            go_wp2_with (fail)
            refine (rbase64_any _ _ hsz).mono ?_
            rintro e w5 ⟨he, b5⟩
            have he' : e = .returned (.string ⟨s.data.toList.toArray⟩) := by
              rw [he]
              show Ending.returned (.string ⟨(r64 (by8 L)).toArray⟩) = _
              rw [HB.out, HS.out]
            subst he'
            have hcv5 := (hR.below b5).conv
            rw [hY.out] at hcv5
            go_wp2_with (fail)
            go_ret2
            exact ⟨by rw [HF.out]; rfl, hb.trans (b5.mono hb.size)⟩
          · have HF : Hid (runB s.data.toList = none) := by
              have h1 := HGD.out
              rw [runB, if_neg h1, HLe.out, if_neg hsame]; exact Lib.hid rfl
            have hsz : (⟨(by8 L).toArray⟩ : ByteArray).size ≤ 2097152 := by rw [size_of']; exact hlen
            have hT1 : (b64L (by8 L) == s.data.toList) = false := by simpa using hsame
            have hT2 : (b64L (by8 L) == s.toList) = false := by rw [Lib.toList_data]; exact hT1
            clear hsame
            go_wp2_with (fail)
            refine (rbase64_any _ _ hsz).mono ?_
            rintro e w5 ⟨he, b5⟩
            have he' : e = .returned (.string ⟨(b64L (by8 L)).toArray⟩) := by
              rw [he]
              show Ending.returned (.string ⟨(r64 (by8 L)).toArray⟩) = _
              rw [HB.out]
            subst he'
            go_wp2_with (fail)
            go_ret2
            exact ⟨by rw [HF.out]; rfl, hb.trans (b5.mono hb.size)⟩
end Go.Proofs.YtlifnfchemiipaaDoor
