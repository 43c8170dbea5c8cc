/- What the document's own FromForm answers: the pairs of a form, in a slice of its own, or the first error. Condition: at most 8388608 bytes. -/
import Derived.Test.YtlifnfchemiipaaDoorWf
set_option linter.unusedSimpArgs false
set_option linter.unusedVariables false
namespace Go.Proofs.YtlifnfchemiipaaDoor
open Go.RowKit

theorem infoStr : (Tryd.prog.info? 9).map (fun i => (i.zero, i.size, i.bytes)) = some (some (.string ⟨#[]⟩), 1, 16) := by kernel_rfl
/-- v is a slice of the call's own that holds the texts l -/
def Rt (B : Nat) (v : Value) (l : List ByteArray) (w : World) : Prop := w.ownsRow B 9 1 v l.length (l.map Value.string)
theorem Rt.below {B : Nat} {v : Value} {l : List ByteArray} {w w' : World} (h : Rt B v l w) (hb : Below w.heap.size w w') : Rt B v l w' := by
  refine ⟨h.1, ?_⟩
  rcases h.2 with hn | ⟨g, cap, cur, hv, hg, hh, rest⟩
  · exact .inl hn
  · exact .inr ⟨g, cap, cur, hv, hg, (hb.block _ (blk_lt hh)).trans hh, rest⟩
theorem Rt.alloc {B : Nat} {v : Value} {l : List ByteArray} {w : World} (h : Rt B v l w) (o : Obj) : Rt B v l (w.alloc o) := h.below ((Below.refl _ _).alloc (Nat.le_refl _) o)
theorem Rt.snoc {B : Nat} {v : Value} {l : List ByteArray} {w : World} {c : ByteArray} (h : w.ownsRow B 9 1 v (l.length + 1) (l.map Value.string ++ [.string c])) : Rt B v (l ++ [c]) w := by
  unfold Rt
  simpa using h
theorem Rt.start (w : World) : Rt w.heap.size (.slice (some ⟨w.heap.size, 0, none⟩) 0 0) [] (w.alloc (.cells #[] 9)) :=
  ⟨rfl, .inr ⟨w.heap.size, 0, #[], rfl, Nat.le_refl _, heap_alloc_new w _, Nat.le_refl _, Nat.zero_le _, rfl, rfl⟩⟩

/-- 'l = append(l, c)' on a row of texts of the call's own -/
theorem appT {ops : Array Oper} {rest : List Oper} {o : Oper} {a : Act} {Q : Exit → Act → World → Prop} {w W : World} {B : Nat} {v : Value} {l : List ByteArray} (c : ByteArray) (s x : Operand) (hgd : o.guard = none)
    (ho : o.op = .call { callee := .builtin .append, args := #[s, x], argTypes := #[39, 39] }) (hs : a.eval s = v) (hx : a.eval x = .slice (some ⟨w.heap.size, 0, none⟩) 1 1)
    (hI : Rt B v l w) (hb : Below B W w) (hB : B ≤ W.heap.size) (hlen : l.length ≤ 281474976)
    (h : ∀ v' w', Rt B v' (l ++ [c]) w' → Below B W w' → v' ≠ .slice none 0 0 → wpList Tryd.prog ops Q rest (a.put o.dst v') w') : wpList Tryd.prog ops Q (o :: rest) a (w.alloc (.cells #[.string c] 9)) := by
  obtain ⟨i0, hi, hz0, hz1, hz2⟩ := info_parts infoStr
  have hI' := hI.alloc (.cells #[.string c] 9)
  have hsz := hb.size
  refine wpList_append_own _ hgd s x 39 ho B 9 i0 (.string ⟨#[]⟩) 1 16 Tryd.underlying39 hi hz0 hz1 hz2 rfl (by decide) v l.length _ hs hI' ⟨w.heap.size, 0, none⟩ 1 1 [.string c] hx rfl (World.news_of_block (heap_alloc_new w _)) (by simp [Value.oneCell']) (by unfold maxLen; omega) (by omega) (by simp; omega) ?_
  intro v' w' h1 h2 h3
  exact h v' w' (Rt.snoc h1) ((hb.alloc (by omega) _).grown h2 (by simp; omega) (fun g hk => (World.ownsRow.lt hI' g hk).1)) (fun e => by simpa using (h3.1 e).2)

/-- a text's bytes from a on, up to b -/
def midL (l : List UInt8) (a b : Nat) : List UInt8 := (l.drop a).take (b - a)
theorem mid_cut (l : List UInt8) (a b : Nat) (h : a ≤ b) : l.drop a = midL l a b ++ l.drop b := by
  have e : l.drop b = (l.drop a).drop (b - a) := by rw [List.drop_drop, show a + (b - a) = b by omega]
  rw [midL, e, List.take_append_drop]
theorem mid_snoc (s : ByteArray) (a b : Nat) (ha : a ≤ b) (h : b < s.size) : midL s.data.toList a (b + 1) = midL s.data.toList a b ++ [s[b]] := by
  have hd : b - a < (s.data.toList.drop a).length := by simp; omega
  rw [midL, midL, show b + 1 - a = b - a + 1 by omega, List.take_succ_eq_append_getElem hd]
  congr 1
  simp only [List.getElem_drop, show a + (b - a) = b by omega]
  rfl
theorem extract_mid (s : ByteArray) (a b : Nat) : (s.extract a b).data.toList = midL s.data.toList a b := by rw [Lib.extract_data, midL]

theorem swap_plus (t : ByteArray) (x : List UInt8) (w : World) (hx : t.data.toList = x) (hs : t.size ≤ 8388608) :
    Calls Tryd.prog 44 #[.string t, .int .u8 43, .int .u8 32] w fun e w' => e = .returned (.string ⟨(unplus x).toArray⟩) ∧ Below w.heap.size w w' :=
  (swap_any t 43 32 w (by omega)).mono fun e w' ⟨he, hb⟩ => ⟨by rw [he, hx]; rfl, hb⟩
theorem rfp_none (x : List UInt8) (w : World) (hs : x.length ≤ 8388608) (h : unwordL x = none) :
    Calls Tryd.prog 21 #[.string ⟨(unplus x).toArray⟩] w fun e w' => e = .returned (.tuple #[.string ⟨#[]⟩, .int .i64 12]) ∧ Below w.heap.size w w' :=
  (rfromPercent_any ⟨(unplus x).toArray⟩ w (by rw [size_of]; simp [unplus]; omega)).mono fun e w' ⟨he, hb⟩ => ⟨by
    have he' : e = Two (unwordL x) 12 := he
    rw [he', h]; rfl, hb⟩
theorem rfp_some (x a : List UInt8) (w : World) (hs : x.length ≤ 8388608) (h : unwordL x = some a) :
    Calls Tryd.prog 21 #[.string ⟨(unplus x).toArray⟩] w fun e w' => e = .returned (.tuple #[.string ⟨a.toArray⟩, .int .i64 0]) ∧ Below w.heap.size w w' :=
  (rfromPercent_any ⟨(unplus x).toArray⟩ w (by rw [size_of]; simp [unplus]; omega)).mono fun e w' ⟨he, hb⟩ => ⟨by
    have he' : e = Two (unwordL x) 12 := he
    rw [he', h]; rfl, hb⟩
theorem Rt.others {B : Nat} {v : Value} {l : List ByteArray} {w w' : World} (h : Rt B v l w) (hk : Lib.OthersKept 34 none w w') : Rt B v l w' := by
  refine ⟨h.1, ?_⟩
  rcases h.2 with hn | ⟨g, cap, cur, hv, hg, hh, rest⟩
  · exact .inl hn
  · exact .inr ⟨g, cap, cur, hv, hg, hk g _ hh (by simp) (by intro c fz e; injection e with _ e; cases e), rest⟩
theorem piece_size (s : ByteArray) (p : List UInt8) (h : p ∈ splitL s.data.toList) : p.length ≤ s.size := by
  have e : splitL s.data.toList = (Lib.splitB ⟨#[38]⟩ 0 (Lib.countB s ⟨#[38]⟩) s).map (·.data.toList) := by rw [Lib.splitB_data]; rfl
  rw [e] at h
  obtain ⟨t, ht, rfl⟩ := List.mem_map.1 h
  have := split_size _ _ s t ht
  simpa using this
theorem partR_cut (l xa xb : List UInt8) (q : Bool) (h0 : l ≠ []) (hc : Lib.cut l [61] = (xa, xb, q)) : partR l = match unwordL xa, unwordL xb with | some a, some b => (0, a, b) | _, _ => (12, [], []) := by
  rw [partR, if_neg h0, hc]
  rfl
theorem infoPart' : (Tryd.prog.info? 34).map (fun i => (i.zero, i.size, i.bytes)) = some (some (.agg #[.string ⟨#[]⟩, .string ⟨#[]⟩]), 2, 32) := by kernel_rfl
theorem cut_no (x : List UInt8) (h : (61 : UInt8) ∉ x) : Lib.cut x [61] = (x, [], false) := by
  rw [Lib.cut, index_no 61 x h, if_neg (by omega)]

set_option maxHeartbeats 4000000 in
set_option maxRecDepth 100000 in
theorem rfromForm_any (s : ByteArray) (w : World) (hs : s.size ≤ 8388608) :
    Calls Tryd.prog 27 #[.string s] w fun e w' => PartsEnd w.heap.size (unformL s.data.toList) e w' ∧ Below w.heap.size w w' := by
  have e0 : s.data.toList.length = s.size := by simp
  obtain ⟨i0, hi, hz0, hz1, hz2⟩ := info_parts infoPart'
  by_cases hbig : 8192 < s.size
  · have HF : Hid (unformL s.data.toList = (14, [])) := by rw [unformL, if_pos (by omega)]; rfl
    clear e0
    have hbig' : (8192 : Int) < (s.size : Int) := by omega
    go_enter Tryd.func27, Tryd.ntmps27
    go_wp2
    go_ret2
    exact ⟨⟨_, by rw [HF.out]; rfl, by rw [HF.out]; exact Rp.nil _ _⟩, Below.refl _ _⟩
  by_cases h0 : s.data.toList = []
  · have HF : Hid (unformL s.data.toList = (0, [])) := by rw [unformL, if_neg (by omega), if_pos h0]; rfl
    have hL : s.toList = [] := by rw [Lib.toList_data, h0]
    clear e0 h0
    go_enter Tryd.func27, Tryd.ntmps27
    go_wp2
    go_ret2
    exact ⟨⟨_, by rw [HF.out]; rfl, by rw [HF.out]; exact Rp.nil _ _⟩, Below.refl _ _⟩
  have hL : s.toList.isEmpty = false := by rw [Lib.toList_data]; simpa using h0
  have hd1 : decide ((8192 : Int) < (s.size : Int)) = false := by simp; omega
  have HF0 : Hid (unformL s.data.toList = if 64 < (splitL s.data.toList).length then (14, []) else runParts (splitL s.data.toList)) := by rw [unformL, if_neg (by omega), if_neg h0]; rfl
  clear e0 h0
  go_enter Tryd.func27, Tryd.ntmps27
  go_wp2_with (fail)
  go_loopw [4, 5, 6] (fun v f i wr => ∃ (k from_ : Nat) (X : List ByteArray), k ≤ s.size + 1 ∧ from_ ≤ k ∧ X.length ≤ k ∧ i = .int .i64 k ∧ f = .int .i64 from_ ∧ v ≠ .slice none 0 0 ∧
      (k ≤ s.size → (38 : UInt8) ∉ midL s.data.toList from_ k ∧ splitL s.data.toList = X.map (·.data.toList) ++ splitL (s.data.toList.drop from_)) ∧ (k = s.size + 1 → splitL s.data.toList = X.map (·.data.toList)) ∧
      Rt w.heap.size v X wr ∧ Below w.heap.size w wr) (fun _ _ i _ => s.size + 1 - (intOf i).toNat)
  case atStart => exact ⟨0, 0, [], by omega, by omega, by simp, rfl, rfl, by simp, fun _ => ⟨by simp [midL], by simp⟩, fun h => by omega, Rt.start w, (Below.refl _ _).alloc (Nat.le_refl _) _⟩
  case round =>
    obtain ⟨k, fr, X, hk, hf, hXl, rfl, rfl, hnn, hA, hZ, hI, hb⟩ := hrel
    have HA := Lib.hid hA
    have HZ := Lib.hid hZ
    have HNN := Lib.hid hnn
    clear hA hZ hnn
    obtain ⟨wo, rfl⟩ : ∃ wo : World, wo = wr := ⟨_, rfl⟩
    by_cases hle : k ≤ s.size
    · have hle' : (k : Int) ≤ (s.size : Int) := by omega
      by_cases hend : k = s.size
      · have he1 : ((k : Int) == (s.size : Int)) = true := by simp; omega
        have HEND := Lib.hid hend
        clear hend
        go_wp2_with (at_builtin; refine appT (s.extract fr k) _ _ rfl rfl rfl rfl hI hb (Nat.le_refl _) (by omega) ?_)
        intro v3 w3 h3 hb3 hn3
        have HN3 := Lib.hid hn3
        clear hn3
        go_wp2_with (fail)
        go_roundw
        case rel =>
          refine ⟨k + 1, k + 1, _, by omega, by omega, by simp; omega, by go_num, by go_num, HN3.out, fun h => by have := HEND.out; omega, fun _ => ?_, h3, hb3⟩
          obtain ⟨h1, h2⟩ := HA.out hle
          have hm : s.data.toList.drop fr = midL s.data.toList fr k := by
            rw [mid_cut _ fr k hf, List.drop_of_length_le (by have := HEND.out; simp; omega), List.append_nil]
          rw [h2, hm, split_no _ h1, List.map_append, List.map_cons, List.map_nil, extract_mid]
        case measure => simp [intOf]; omega
      · have hlt : k < s.size := by omega
        have he1 : ((k : Int) == (s.size : Int)) = false := by simp; omega
        have hki : (k : Int) < (s.size : Int) := by omega
        have h8 := s[k].toNat_lt
        clear hend
        by_cases hc : s[k] = 38
        · have hq : ((s[k].toNat : Int) == 38) = true := by rw [hc]; rfl
          have HC := Lib.hid hc
          clear hc
          go_wp2_with (at_builtin; refine appT (s.extract fr k) _ _ rfl rfl rfl rfl hI hb (Nat.le_refl _) (by omega) ?_)
          intro v3 w3 h3 hb3 hn3
          have HN3 := Lib.hid hn3
          clear hn3
          go_wp2_with (fail)
          go_roundw
          case rel =>
            refine ⟨k + 1, k + 1, _, by omega, by omega, by simp; omega, by go_num, by go_num, HN3.out, fun _ => ⟨by simp [midL], ?_⟩, fun h => by omega, h3, hb3⟩
            obtain ⟨h1, h2⟩ := HA.out hle
            have hm : s.data.toList.drop fr = midL s.data.toList fr k ++ 38 :: s.data.toList.drop (k + 1) := by
              rw [mid_cut _ fr k hf, drop_one s k hlt, HC.out]
            rw [h2, hm, split_at _ _ h1, List.map_append, List.map_cons, List.map_nil, extract_mid]
            simp
          case measure => simp [intOf]; omega
        · have hq : ((s[k].toNat : Int) == 38) = false := by
            have : ¬ s[k].toNat = 38 := fun e => hc (UInt8.toNat_inj.1 e)
            simp; omega
          have HC := Lib.hid hc
          clear hc
          go_wp2_with (fail)
          go_roundw
          case rel =>
            refine ⟨k + 1, fr, X, by omega, by omega, by omega, by go_num, rfl, HNN.out, fun _ => ?_, fun h => by omega, hI, hb⟩
            obtain ⟨h1, h2⟩ := HA.out hle
            refine ⟨?_, h2⟩
            rw [mid_snoc s fr k hf hlt]
            intro h
            rcases List.mem_append.1 h with h | h
            · exact h1 h
            · simp at h; exact HC.out h.symm
          case measure => simp [intOf]; omega
    · obtain ⟨g, cap, rfl, hg, cur, hh⟩ : ∃ g cap, u4 = .slice (some ⟨g, 0, none⟩) X.length cap ∧ w.heap.size ≤ g ∧ ∃ cur, wo.heap[g]? = some (.cells cur 9 (0, 0)) := by
        rcases hI.2 with ⟨hv, _⟩ | ⟨g, cap, cur, hv, hg, hh, _⟩
        · exact absurd hv HNN.out
        · exact ⟨g, cap, hv, hg, cur, hh⟩
      have hk1 : k = s.size + 1 := by omega
      have hsp := HZ.out hk1
      have HSP := Lib.hid hsp
      have hlen : (splitL s.data.toList).length = X.length := by rw [hsp]; simp
      clear hsp hk1
      by_cases h64 : 64 < X.length
      · have HF : Hid (unformL s.data.toList = (14, [])) := by rw [HF0.out, if_pos (by omega)]; rfl
        have h64' : (64 : Int) < (X.length : Int) := by omega
        clear hlen
        go_wp2_with (fail)
        go_ret2
        exact ⟨⟨_, by rw [HF.out]; rfl, by rw [HF.out]; exact Rp.nil _ _⟩, hb⟩
      · have HF : Hid (unformL s.data.toList = runParts (splitL s.data.toList)) := by rw [HF0.out, if_neg (by omega)]; rfl
        have h64' : ¬ (64 : Int) < (X.length : Int) := by omega
        have hd2 : decide ((64 : Int) < (X.length : Int)) = false := by simp; omega
        have hget : ∀ j, (h : j < X.length) → (splitL s.data.toList).drop j = X[j].data.toList :: (splitL s.data.toList).drop (j + 1) := by
          intro j h
          rw [List.drop_eq_getElem_cons (by omega)]
          congr 1
          simp [HSP.out]
        have HGET := Lib.hid hget
        have hbs := hb.size
        clear hlen hget
        go_wp2_with (fail)
        have hR0 : Rp w.heap.size (.slice (some ⟨wo.heap.size, 0, none⟩) 0 0) [] (wo.alloc (.cells #[] 34)) := ⟨rfl, .inr ⟨wo.heap.size, 0, #[], rfl, hbs, heap_alloc_new wo _, Nat.le_refl _, Nat.zero_le _, rfl, rfl⟩⟩
        have hI0 := hI.alloc (.cells #[] 34)
        have hb0 := hb.alloc hbs (.cells #[] 34)
        clear hI hb hbs hh
        go_loopw [7, 8] (fun v i wr => ∃ (j : Nat) (acc : Parts), j ≤ X.length ∧ acc.length = j ∧ i = .int .i64 j ∧ runParts (splitL s.data.toList) = after acc (runParts ((splitL s.data.toList).drop j)) ∧ Rp w.heap.size v acc wr ∧ Rt w.heap.size (.slice (some ⟨g, 0, none⟩) X.length cap) X wr ∧ Below w.heap.size w wr) (fun _ i _ => X.length - (intOf i).toNat)
        case atStart => exact ⟨0, [], by omega, rfl, rfl, by rw [List.drop_zero]; exact (after_nil _).symm, hR0, hI0, hb0⟩
        case round =>
          clear hR0 hI0 hb0
          obtain ⟨j, acc, hj, hal, rfl, hU, hR, hI, hb⟩ := hrel
          have HU := Lib.hid hU
          have HA2 := Lib.hid hal
          clear hU hal
          have hbs := hb.size
          by_cases hlt : j < X.length
          · have hkX := HGET.out j hlt
            have c0 : wr.cell? ⟨g, j, none⟩ = some (.string X[j]) := by
              have h := World.ownsRow.cells hI (g := g) rfl j (.string X[j]) (by simp [hlt])
              have ea : (⟨g, 0, none⟩ : Addr).add j = ⟨g, j, none⟩ := by unfold Addr.add; split <;> simp_all
              rwa [ea] at h
            have hji : (j : Int) < (X.length : Int) := by omega
            have hsz : X[j].size ≤ 8388608 := by
              have h := piece_size s X[j].data.toList (by rw [HSP.out]; exact List.mem_map.2 ⟨X[j], List.getElem_mem hlt, rfl⟩)
              have e : X[j].data.toList.length = X[j].size := by simp
              omega
            have HKX := Lib.hid hkX
            clear hkX
            by_cases hemp : X[j].data.toList = []
            · have hP : partR X[j].data.toList = (13, [], []) := by rw [partR, if_pos hemp]
              have HR : Hid (runParts (splitL s.data.toList) = (13, [])) := by rw [HU.out, HKX.out, run_err _ _ 13 hP (by decide)]; rfl
              have hL : X[j].toList = [] := by rw [Lib.toList_data, hemp]
              clear hemp hP
              go_wp2_with (fail)
              go_ret2
              exact ⟨⟨_, by rw [HF.out, HR.out]; rfl, by rw [HF.out, HR.out]; exact Rp.nil _ _⟩, hb⟩
            · have hL : X[j].toList.isEmpty = false := by rw [Lib.toList_data]; simpa using hemp
              have HEMP := Lib.hid hemp
              clear hemp
              go_wp2_with (fail)
              go_loop [10] (fun a => ∃ m : Nat, m ≤ X[j].size ∧ a = .int .i64 m ∧ (61 : UInt8) ∉ midL X[j].data.toList 0 m) (fun a => X[j].size - (intOf a).toNat)
              case atStart => exact ⟨0, by omega, rfl, by simp [midL]⟩
              case round =>
                obtain ⟨m, hm, rfl, hno⟩ := hrel
                have HNO := Lib.hid hno
                clear hno
                by_cases hlm : m < X[j].size
                · have hmi : (m : Int) < (X[j].size : Int) := by omega
                  have h8 := X[j][m].toNat_lt
                  by_cases hc : X[j][m] = 61
                  · have hq : ((X[j][m].toNat : Int) != 61) = false := by rw [hc]; rfl
                    have HC := Lib.hid hc
                    clear hc
                    obtain ⟨xa, hxa⟩ : ∃ xa, (X[j].extract 0 m).data.toList = xa := ⟨_, rfl⟩
                    have hxm : midL X[j].data.toList 0 m = xa := by rw [← hxa, extract_mid]
                    have hla : xa.length ≤ 8388608 := by
                      rw [← hxm, midL, List.length_take]
                      have e : X[j].data.toList.length = X[j].size := by simp
                      omega
                    obtain ⟨xb, hxb⟩ : ∃ xb, (X[j].extract (m + 1) X[j].size).data.toList = xb := ⟨_, rfl⟩
                    have hxd : X[j].data.toList.drop (m + 1) = xb := by
                      rw [← hxb, extract_mid, midL, List.take_of_length_le (by simp)]
                    have hlb : xb.length ≤ 8388608 := by
                      rw [← hxd, List.length_drop]
                      have e : X[j].data.toList.length = X[j].size := by simp
                      omega
                    have hcut : Lib.cut X[j].data.toList [61] = (xa, xb, true) := by
                      have h1 := HNO.out
                      rw [hxm] at h1
                      have e : X[j].data.toList = xa ++ 61 :: xb := by
                        have h2 := mid_cut X[j].data.toList 0 m (by omega)
                        rw [List.drop_zero, drop_one X[j] m hlm, HC.out, hxm, hxd] at h2
                        exact h2
                      rw [e]
                      exact cut_at xa xb h1
                    have hpr := partR_cut _ xa xb true HEMP.out hcut
                    have HXA := Lib.hid hxa
                    have HXB := Lib.hid hxb
                    clear hcut hxm hxd
                    rcases hua : unwordL xa with _ | a <;> rcases hub : unwordL xb with _ | b
                    · rw [hua, hub] at hpr
                      have HRN : Hid (runParts (splitL s.data.toList) = (12, [])) := by rw [HU.out, HKX.out, run_err _ _ 12 hpr (by decide)]; rfl
                      have HUA := Lib.hid hua
                      have HUB := Lib.hid hub
                      clear hua hub hpr hxa hxb
                      go_wp2_with (fail)
                      refine (swap_plus _ xa _ HXA.out (by rw [ByteArray.size_extract]; omega)).mono ?_
                      rintro e wA ⟨rfl, bA⟩
                      have hbA := hb.trans (bA.mono hb.size)
                      go_wp2_with (fail)
                      refine (rfp_none xa _ hla HUA.out).mono ?_
                      rintro e wB ⟨rfl, bB⟩
                      have hbB := hbA.trans (bB.mono hbA.size)
                      go_wp2_with (fail)
                      refine (swap_plus _ xb _ HXB.out (by rw [ByteArray.size_extract]; omega)).mono ?_
                      rintro e wC ⟨rfl, bC⟩
                      have hbC := hbB.trans (bC.mono hbB.size)
                      go_wp2_with (fail)
                      refine (rfp_none xb _ hlb HUB.out).mono ?_
                      rintro e wD ⟨rfl, bD⟩
                      have hbD := hbC.trans (bD.mono hbC.size)
                      go_wp2_with (fail)
                      go_ret2
                      exact ⟨⟨_, by rw [HF.out, HRN.out]; rfl, by rw [HF.out, HRN.out]; exact Rp.nil _ _⟩, hbD⟩
                    · rw [hua, hub] at hpr
                      have HRN : Hid (runParts (splitL s.data.toList) = (12, [])) := by rw [HU.out, HKX.out, run_err _ _ 12 hpr (by decide)]; rfl
                      have HUA := Lib.hid hua
                      have HUB := Lib.hid hub
                      clear hua hub hpr hxa hxb
                      go_wp2_with (fail)
                      refine (swap_plus _ xa _ HXA.out (by rw [ByteArray.size_extract]; omega)).mono ?_
                      rintro e wA ⟨rfl, bA⟩
                      have hbA := hb.trans (bA.mono hb.size)
                      go_wp2_with (fail)
                      refine (rfp_none xa _ hla HUA.out).mono ?_
                      rintro e wB ⟨rfl, bB⟩
                      have hbB := hbA.trans (bB.mono hbA.size)
                      go_wp2_with (fail)
                      refine (swap_plus _ xb _ HXB.out (by rw [ByteArray.size_extract]; omega)).mono ?_
                      rintro e wC ⟨rfl, bC⟩
                      have hbC := hbB.trans (bC.mono hbB.size)
                      go_wp2_with (fail)
                      refine (rfp_some xb b _ hlb HUB.out).mono ?_
                      rintro e wD ⟨rfl, bD⟩
                      have hbD := hbC.trans (bD.mono hbC.size)
                      go_wp2_with (fail)
                      go_ret2
                      exact ⟨⟨_, by rw [HF.out, HRN.out]; rfl, by rw [HF.out, HRN.out]; exact Rp.nil _ _⟩, hbD⟩
                    · rw [hua, hub] at hpr
                      have HRN : Hid (runParts (splitL s.data.toList) = (12, [])) := by rw [HU.out, HKX.out, run_err _ _ 12 hpr (by decide)]; rfl
                      have HUA := Lib.hid hua
                      have HUB := Lib.hid hub
                      clear hua hub hpr hxa hxb
                      go_wp2_with (fail)
                      refine (swap_plus _ xa _ HXA.out (by rw [ByteArray.size_extract]; omega)).mono ?_
                      rintro e wA ⟨rfl, bA⟩
                      have hbA := hb.trans (bA.mono hb.size)
                      go_wp2_with (fail)
                      refine (rfp_some xa a _ hla HUA.out).mono ?_
                      rintro e wB ⟨rfl, bB⟩
                      have hbB := hbA.trans (bB.mono hbA.size)
                      go_wp2_with (fail)
                      refine (swap_plus _ xb _ HXB.out (by rw [ByteArray.size_extract]; omega)).mono ?_
                      rintro e wC ⟨rfl, bC⟩
                      have hbC := hbB.trans (bC.mono hbB.size)
                      go_wp2_with (fail)
                      refine (rfp_none xb _ hlb HUB.out).mono ?_
                      rintro e wD ⟨rfl, bD⟩
                      have hbD := hbC.trans (bD.mono hbC.size)
                      go_wp2_with (fail)
                      go_ret2
                      exact ⟨⟨_, by rw [HF.out, HRN.out]; rfl, by rw [HF.out, HRN.out]; exact Rp.nil _ _⟩, hbD⟩
                    · rw [hua, hub] at hpr
                      have HRN : Hid (runParts (splitL s.data.toList) = after (acc ++ [(a, b)]) (runParts ((splitL s.data.toList).drop (j + 1)))) := by rw [HU.out, HKX.out, run_ok _ _ a b hpr]; rfl
                      have HUA := Lib.hid hua
                      have HUB := Lib.hid hub
                      clear hua hub hpr hxa hxb
                      go_wp2_with (fail)
                      refine (swap_plus _ xa _ HXA.out (by rw [ByteArray.size_extract]; omega)).mono ?_
                      rintro e wA ⟨rfl, bA⟩
                      have hbA := hb.trans (bA.mono hb.size)
                      go_wp2_with (fail)
                      refine (rfp_some xa a _ hla HUA.out).mono ?_
                      rintro e wB ⟨rfl, bB⟩
                      have hbB := hbA.trans (bB.mono hbA.size)
                      go_wp2_with (fail)
                      refine (swap_plus _ xb _ HXB.out (by rw [ByteArray.size_extract]; omega)).mono ?_
                      rintro e wC ⟨rfl, bC⟩
                      have hbC := hbB.trans (bC.mono hbB.size)
                      go_wp2_with (fail)
                      refine (rfp_some xb b _ hlb HUB.out).mono ?_
                      rintro e wD ⟨rfl, bD⟩
                      have hbD := hbC.trans (bD.mono hbC.size)
                      have hR4 : wD.ownsRow w.heap.size 34 2 u7 acc.length (partCells acc) := (((hR.below bA).below bB).below bC).below bD
                      have hI4 := (((hI.below bA).below bB).below bC).below bD
                      have hl4 : acc.length ≤ 64 := by have := HA2.out; omega
                      have hsD := hbD.size
                      go_wp2_with (at_builtin; refine wpList_append_own _ rfl _ _ 28 rfl w.heap.size 34 i0 _ 2 32 Tryd.underlying28 hi hz0 hz1 hz2 rfl (by decide) _ _ _ rfl (hR4.alloc _) ⟨wD.heap.size, 0, none⟩ 1 1 [.string ⟨a.toArray⟩, .string ⟨b.toArray⟩] rfl rfl ?c1 ?c2 ?c3 ?c4 ?c5 ?_)
                      case c1 => exact World.news_of_block (heap_alloc_new wD _)
                      case c2 => simp [Value.oneCell']
                      case c3 => unfold maxLen; omega
                      case c4 => omega
                      case c5 => simp; omega
                      intro v5 w5 h5 hg5 _
                      have hR5 : Rp w.heap.size v5 (acc ++ [(a, b)]) w5 := by
                        unfold Rp
                        rw [partCells_snoc]
                        simpa [strV] using h5
                      have hb5 : Below w.heap.size w w5 := (hbD.alloc (by omega) _).grown hg5 (by simp; omega) (fun g hk => (World.ownsRow.lt hR4 g hk).1)
                      have ho5 : Lib.OthersKept 34 none wD w5 := by
                        refine ((Lib.OthersKept.refl 34 none wD).alloc _).grown hg5 ?_
                        intro gg hgg
                        rcases hR4.2 with ⟨hv, _⟩ | ⟨g', cap', cur', hv, _, hh', _⟩
                        · rw [hv] at hgg; simp [Value.ownBlock] at hgg
                        · rw [hv] at hgg; simp [Value.ownBlock] at hgg
                          subst hgg
                          exact ⟨cur', (0, 0), (Below.heap_alloc wD _ _ (blk_lt hh')).trans hh'⟩
                      have hI5 := hI4.others ho5
                      clear h5 hg5 hR4 hI4 ho5
                      go_wp2_with (fail)
                      go_roundw
                      case rel => exact ⟨j + 1, _, by omega, by have := HA2.out; simp; omega, by go_num, HRN.out, hR5, hI5, hb5⟩
                      case measure => simp [intOf]; omega
                  · have hq : ((X[j][m].toNat : Int) != 61) = true := by
                      have : ¬ X[j][m].toNat = 61 := fun e => hc (UInt8.toNat_inj.1 e)
                      simp; omega
                    have HC := Lib.hid hc
                    clear hc
                    go_wp2_with (fail)
                    go_round
                    case rel =>
                      refine ⟨m + 1, by omega, by go_num, ?_⟩
                      rw [mid_snoc X[j] 0 m (by omega) hlm]
                      intro h
                      rcases List.mem_append.1 h with h | h
                      · exact HNO.out h
                      · simp at h; exact HC.out h.symm
                    case measure => simp [intOf]; omega
                · obtain ⟨xa, hxa⟩ : ∃ xa, (X[j].extract 0 m).data.toList = xa := ⟨_, rfl⟩
                  have hxm : midL X[j].data.toList 0 m = xa := by rw [← hxa, extract_mid]
                  have hla : xa.length ≤ 8388608 := by
                    rw [← hxm, midL, List.length_take]
                    have e : X[j].data.toList.length = X[j].size := by simp
                    omega
                  have hcut : Lib.cut X[j].data.toList [61] = (xa, [], false) := by
                    have h1 := HNO.out
                    rw [hxm] at h1
                    have e : X[j].data.toList = xa := by
                      have h2 := mid_cut X[j].data.toList 0 m (by omega)
                      rw [List.drop_zero, List.drop_of_length_le (by simp; omega), List.append_nil, hxm] at h2
                      exact h2
                    rw [e]
                    exact cut_no xa h1
                  have hpr := partR_cut _ xa [] false HEMP.out hcut
                  have hmi : ¬ (m : Int) < (X[j].size : Int) := by omega
                  have HXA := Lib.hid hxa
                  clear hcut hxm
                  rcases hua : unwordL xa with _ | a <;> rcases hub : unwordL ([] : List UInt8) with _ | b
                  · cases hub
                  · rw [hua, hub] at hpr
                    obtain rfl : b = [] := by injection hub with h; exact h.symm
                    have HRN : Hid (runParts (splitL s.data.toList) = (12, [])) := by rw [HU.out, HKX.out, run_err _ _ 12 hpr (by decide)]; rfl
                    have HUA := Lib.hid hua
                    have HUB := Lib.hid hub
                    clear hua hub hpr hxa
                    go_wp2_with (fail)
                    refine (swap_plus _ xa _ HXA.out (by rw [ByteArray.size_extract]; omega)).mono ?_
                    rintro e wA ⟨rfl, bA⟩
                    have hbA := hb.trans (bA.mono hb.size)
                    go_wp2_with (fail)
                    refine (rfp_none xa _ hla HUA.out).mono ?_
                    rintro e wB ⟨rfl, bB⟩
                    have hbB := hbA.trans (bB.mono hbA.size)
                    go_wp2_with (fail)
                    refine (swap_plus _ [] _ rfl (by decide)).mono ?_
                    rintro e wC ⟨rfl, bC⟩
                    have hbC := hbB.trans (bC.mono hbB.size)
                    go_wp2_with (fail)
                    refine (rfp_some [] [] _ (by simp) HUB.out).mono ?_
                    rintro e wD ⟨rfl, bD⟩
                    have hbD := hbC.trans (bD.mono hbC.size)
                    go_wp2_with (fail)
                    go_ret2
                    exact ⟨⟨_, by rw [HF.out, HRN.out]; rfl, by rw [HF.out, HRN.out]; exact Rp.nil _ _⟩, hbD⟩
                  · cases hub
                  · rw [hua, hub] at hpr
                    obtain rfl : b = [] := by injection hub with h; exact h.symm
                    have HRN : Hid (runParts (splitL s.data.toList) = after (acc ++ [(a, [])]) (runParts ((splitL s.data.toList).drop (j + 1)))) := by rw [HU.out, HKX.out, run_ok _ _ a [] hpr]; rfl
                    have HUA := Lib.hid hua
                    have HUB := Lib.hid hub
                    clear hua hub hpr hxa
                    go_wp2_with (fail)
                    refine (swap_plus _ xa _ HXA.out (by rw [ByteArray.size_extract]; omega)).mono ?_
                    rintro e wA ⟨rfl, bA⟩
                    have hbA := hb.trans (bA.mono hb.size)
                    go_wp2_with (fail)
                    refine (rfp_some xa a _ hla HUA.out).mono ?_
                    rintro e wB ⟨rfl, bB⟩
                    have hbB := hbA.trans (bB.mono hbA.size)
                    go_wp2_with (fail)
                    refine (swap_plus _ [] _ rfl (by decide)).mono ?_
                    rintro e wC ⟨rfl, bC⟩
                    have hbC := hbB.trans (bC.mono hbB.size)
                    go_wp2_with (fail)
                    refine (rfp_some [] [] _ (by simp) HUB.out).mono ?_
                    rintro e wD ⟨rfl, bD⟩
                    have hbD := hbC.trans (bD.mono hbC.size)
                    have hR4 : wD.ownsRow w.heap.size 34 2 u7 acc.length (partCells acc) := (((hR.below bA).below bB).below bC).below bD
                    have hI4 := (((hI.below bA).below bB).below bC).below bD
                    have hl4 : acc.length ≤ 64 := by have := HA2.out; omega
                    have hsD := hbD.size
                    go_wp2_with (at_builtin; refine wpList_append_own _ rfl _ _ 28 rfl w.heap.size 34 i0 _ 2 32 Tryd.underlying28 hi hz0 hz1 hz2 rfl (by decide) _ _ _ rfl (hR4.alloc _) ⟨wD.heap.size, 0, none⟩ 1 1 [.string ⟨a.toArray⟩, .string ⟨[].toArray⟩] rfl rfl ?c1 ?c2 ?c3 ?c4 ?c5 ?_)
                    case c1 => exact World.news_of_block (heap_alloc_new wD _)
                    case c2 => simp [Value.oneCell']
                    case c3 => unfold maxLen; omega
                    case c4 => omega
                    case c5 => simp; omega
                    intro v5 w5 h5 hg5 _
                    have hR5 : Rp w.heap.size v5 (acc ++ [(a, [])]) w5 := by
                      unfold Rp
                      rw [partCells_snoc]
                      simpa [strV] using h5
                    have hb5 : Below w.heap.size w w5 := (hbD.alloc (by omega) _).grown hg5 (by simp; omega) (fun g hk => (World.ownsRow.lt hR4 g hk).1)
                    have ho5 : Lib.OthersKept 34 none wD w5 := by
                      refine ((Lib.OthersKept.refl 34 none wD).alloc _).grown hg5 ?_
                      intro gg hgg
                      rcases hR4.2 with ⟨hv, _⟩ | ⟨g', cap', cur', hv, _, hh', _⟩
                      · rw [hv] at hgg; simp [Value.ownBlock] at hgg
                      · rw [hv] at hgg; simp [Value.ownBlock] at hgg
                        subst hgg
                        exact ⟨cur', (0, 0), (Below.heap_alloc wD _ _ (blk_lt hh')).trans hh'⟩
                    have hI5 := hI4.others ho5
                    clear h5 hg5 hR4 hI4 ho5
                    go_wp2_with (fail)
                    go_roundw
                    case rel => exact ⟨j + 1, _, by omega, by have := HA2.out; simp; omega, by go_num, HRN.out, hR5, hI5, hb5⟩
                    case measure => simp [intOf]; omega
          · have HR : Hid (runParts (splitL s.data.toList) = (0, acc)) := by
              have e : (splitL s.data.toList).drop j = [] := List.drop_of_length_le (by rw [HSP.out]; simp; omega)
              rw [HU.out, e]
              exact Lib.hid (by simp [runParts, after])
            go_wp2_with (fail)
            go_ret2
            exact ⟨⟨_, by rw [HF.out, HR.out]; rfl, by rw [HF.out, HR.out]; exact hR⟩, hb⟩
end Go.Proofs.YtlifnfchemiipaaDoor
