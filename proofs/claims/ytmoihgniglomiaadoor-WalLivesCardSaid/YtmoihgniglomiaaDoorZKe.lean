/- Rows of texts and states are the same, or not; a state is among some. No condition but the rows'. -/
import Derived.Laws.StructEq
import Derived.Test.YtmoihgniglomiaaDoorZXc
import Derived.Test.YtmoihgniglomiaaDoorZXa
set_option linter.unusedVariables false
set_option linter.unusedSimpArgs false
set_option maxRecDepth 100000
namespace Go.Proofs.YtmoihgniglomiaaDoor
open Go.RowKit Go.Sort

/-- a row of texts -/
def RowS (w : World) (v : Value) (l : List Bs) : Prop := w.ownsRow 0 9 1 v l.length (scells l)
theorem RowS.shape {w : World} {v : Value} {l : List Bs} (h : RowS w v l) : ∃ a c, v = .slice a l.length c := by
  obtain ⟨_, ⟨rfl, hn⟩ | ⟨q, cap, cur, rfl, _⟩⟩ := h
  · exact ⟨none, 0, by rw [hn]⟩
  · exact ⟨_, _, rfl⟩
theorem RowS.lt {w : World} {v : Value} {l : List Bs} (h : RowS w v l) : ∀ g, v.ownBlock = some g → g < w.heap.size := fun g e => (World.ownsRow.lt h g e).2
theorem RowS.kept {w w' : World} {v : Value} {l : List Bs} (h : RowS w v l) (k : ∀ g, v.ownBlock = some g → w'.heap[g]? = w.heap[g]?) : RowS w' v l := ownsS_of h fun g e _ => k g e
theorem RowS.below {w w' : World} {v : Value} {l : List Bs} (h : RowS w v l) (hb : Below w.heap.size w w') : RowS w' v l := h.kept fun g e => hb.block g (h.lt g e)
theorem RowS.only {w w' : World} {v : Value} {l : List Bs} {L : List Nat} (h : RowS w v l) (ho : Only L w w') (hL : ∀ g, v.ownBlock = some g → g ∉ L) : RowS w' v l := h.kept fun g e => ho.block g (h.lt g e) (hL g e)
theorem ba_inj {a b : Bs} (h : (⟨a.toArray⟩ : ByteArray) = ⟨b.toArray⟩) : a = b := by
  have := congrArg ByteArray.data h
  simpa using this
theorem ba_ne {x y : ByteArray} (h : x ≠ y) : (x.toList == y.toList) = false := by
  rw [ByteArray.toList_eq, ByteArray.toList_eq]
  refine beq_eq_false_iff_ne.2 fun e => h ?_
  obtain ⟨a⟩ := x
  obtain ⟨b⟩ := y
  have : a = b := Array.ext' e
  rw [this]
set_option maxHeartbeats 8000000 in
theorem samer_any (v v' : Value) (l l' : List Bs) (w : World) (h : RowS w v l) (h' : RowS w v' l') (hl : l.length ≤ 4194304) :
    Calls Tryd.prog 25 #[v, v'] w fun e w' => e = .returned (.bool (decide (l = l'))) ∧ Below w.heap.size w w' := by
  obtain ⟨n, hn⟩ : ∃ n, n = l.length := ⟨_, rfl⟩
  obtain ⟨n', hn'⟩ : ∃ n, n = l'.length := ⟨_, rfl⟩
  unfold RowS at h h'
  rw [← hn] at h
  rw [← hn'] at h'
  obtain ⟨a, c, rfl, hc⟩ := srow_at hn h
  obtain ⟨a', c', rfl, hc'⟩ := srow_at hn' h'
  have HC := Lib.hid (And.intro hc hc')
  have hlen : n ≤ 4194304 := by rw [hn]; exact hl
  have HN := Lib.hid hn
  have HN' := Lib.hid hn'
  have hne := ne9
  obtain ⟨D, hD⟩ : ∃ D, D = decide (l = l') := ⟨_, rfl⟩
  rw [← hD]
  have HD := Lib.hid hD
  clear h h' hc hc' hl hn hn' hD
  by_cases hnn : n = n'
  · subst hnn
    go_enter Tryd.func25, Tryd.ntmps25
    go_wp2_with fail
    go_loopw [5] (fun iv wr => ∃ i : Nat, i ≤ n ∧ iv = .int .i64 (i : Int) ∧ Hid (Below w.heap.size w wr) ∧ Hid (∀ g i x, w.cell? ⟨g, i, none⟩ = some x → wr.cell? ⟨g, i, none⟩ = some x) ∧ Hid (∀ j, j < i → l[j]? = l'[j]?)) (fun iv _ => n - (intOf iv).toNat)
    case atStart => exact ⟨0, Nat.zero_le _, rfl, Lib.hid (Below.refl _ _), Lib.hid fun _ _ _ h => h, Lib.hid fun j h => by omega⟩
    case round =>
      obtain ⟨i, hi, rfl, HB, HW, HE⟩ := hrel
      by_cases hlt : i < n
      · have hil : i < l.length := by rw [← HN.out]; exact hlt
        have hil' : i < l'.length := by rw [← HN'.out]; exact hlt
        obtain ⟨g, rfl, c0⟩ := HC.out.1 i hil
        obtain ⟨g', rfl, c1⟩ := HC.out.2 i hil'
        replace c0 := HW.out _ _ _ c0
        replace c1 := HW.out _ _ _ c1
        by_cases heq : l[i] = l'[i]
        · have HQ : Hid (∀ j, j < i + 1 → l[j]? = l'[j]?) := Lib.hid fun j hj => by
            by_cases h : j < i
            · exact HE.out j h
            · have : j = i := by omega
              subst this
              rw [List.getElem?_eq_getElem hil, List.getElem?_eq_getElem hil', heq]
          rw [heq] at c0
          clear heq HE
          generalize (⟨l'[i].toArray⟩ : ByteArray) = x at c0 c1
          go_wp2_with fail
          go_quiet (fail)
          go_wp2_with fail
          go_roundw
          case rel => exact ⟨i + 1, by omega, by go_num, Lib.hid (below_drewN HB.out _), Lib.hid fun g i x h => by have := HW.out g i x h; simpa using this, HQ⟩
          case measure => simp [intOf]; omega
        · have hd : decide (l = l') = false := decide_eq_false fun e => heq (by subst e; rfl)
          have HX := Lib.hid (HD.out.trans hd)
          have hx : (⟨l[i].toArray⟩ : ByteArray) ≠ ⟨l'[i].toArray⟩ := fun e => heq (ba_inj e)
          clear heq HE hd
          generalize (⟨l[i].toArray⟩ : ByteArray) = x at c0 hx
          generalize (⟨l'[i].toArray⟩ : ByteArray) = y at c1 hx
          have hxy : (x.toList == y.toList) = false := ba_ne hx
          go_wp2_with fail
          go_quiet (fail)
          go_wp2_with fail
          go_ret
          exact ⟨by rw [HX.out]; rfl, below_drewN HB.out _⟩
      · have hin : i = n := by omega
        subst hin
        have hd : decide (l = l') = true := decide_eq_true (by
          apply List.ext_getElem?
          intro j
          by_cases hj : j < i
          · exact HE.out j hj
          · have := HN.out
            have := HN'.out
            rw [List.getElem?_eq_none (by omega), List.getElem?_eq_none (by omega)])
        have HX := Lib.hid (HD.out.trans hd)
        clear hd
        go_wp2_with fail
        go_ret
        exact ⟨by rw [HX.out]; rfl, HB.out⟩
  · have hd : decide (l = l') = false := decide_eq_false fun e => hnn (by have h1 := HN.out; have h2 := HN'.out; have := congrArg List.length e; omega)
    have HX := Lib.hid (HD.out.trans hd)
    have hni : ((n : Int) != (n' : Int)) = true := by simp; omega
    clear hd hnn
    go_enter Tryd.func25, Tryd.ntmps25
    go_wp2_with fail
    go_ret
    exact ⟨by rw [HX.out]; rfl, Below.refl _ _⟩
/-- a state -/
abbrev Stt := Bs × List Bs
def stv (s : Stt) (rv : Value) : Value := .agg #[.string ⟨s.1.toArray⟩, rv]
set_option maxHeartbeats 8000000 in
theorem sameState_any (s s' : Stt) (rv rv' : Value) (w : World) (h : RowS w rv s.2) (h' : RowS w rv' s'.2) (hl : s.2.length ≤ 4194304) :
    Calls Tryd.prog 70 #[stv s rv, stv s' rv'] w fun e w' => e = .returned (.bool (decide (s = s'))) ∧ Below w.heap.size w w' := by
  obtain ⟨a, b⟩ := s
  obtain ⟨a', b'⟩ := s'
  have hbl : Below w.heap.size w ((w.alloc (.cells #[.string ⟨a.toArray⟩, rv] 67)).alloc (.cells #[.string ⟨a'.toArray⟩, rv'] 67)) := by go_grown
  have HS := Lib.hid (samer_any rv rv' b b' _ (h.below hbl) (h'.below hbl) hl)
  have HB := Lib.hid hbl
  have c0 : ((w.alloc (.cells #[.string ⟨a.toArray⟩, rv] 67)).alloc (.cells #[.string ⟨a'.toArray⟩, rv'] 67)).cell? ⟨w.heap.size, 0, none⟩ = some (.string ⟨a.toArray⟩) := (Bk.alloc (Bk.new (t := 67) rfl)).cell 0
  have c1 : ((w.alloc (.cells #[.string ⟨a.toArray⟩, rv] 67)).alloc (.cells #[.string ⟨a'.toArray⟩, rv'] 67)).cell? ⟨w.heap.size, 1, none⟩ = some rv := (Bk.alloc (Bk.new (t := 67) rfl)).cell 1
  have c2 : ((w.alloc (.cells #[.string ⟨a.toArray⟩, rv] 67)).alloc (.cells #[.string ⟨a'.toArray⟩, rv'] 67)).cell? ⟨w.heap.size + 1, 0, none⟩ = some (.string ⟨a'.toArray⟩) := (Bk.new (t := 67) (by simp)).cell 0
  have c3 : ((w.alloc (.cells #[.string ⟨a.toArray⟩, rv] 67)).alloc (.cells #[.string ⟨a'.toArray⟩, rv'] 67)).cell? ⟨w.heap.size + 1, 1, none⟩ = some rv' := (Bk.new (t := 67) (by simp)).cell 1
  unfold stv
  clear h h' hbl
  by_cases hab : a = a'
  · subst hab
    have e : decide ((a, b) = (a, b')) = decide (b = b') := by simp
    rw [e]
    generalize (⟨a.toArray⟩ : ByteArray) = x at *
    generalize decide (b = b') = d at *
    go_enter Tryd.func70, Tryd.ntmps70
    go_wp2_with fail
    refine HS.out.mono ?_
    rintro e w1 ⟨rfl, hb⟩
    have HB1 := Lib.hid (HB.out.trans (hb.mono HB.out.size))
    clear hb c0 c1 c2 c3 HS HB
    go_wp2_with fail
    go_ret
    exact ⟨rfl, HB1.out⟩
  · have e : decide ((a, b) = (a', b')) = false := decide_eq_false fun h => hab (congrArg Prod.fst h)
    rw [e]
    have hx : (⟨a.toArray⟩ : ByteArray) ≠ ⟨a'.toArray⟩ := fun e => hab (ba_inj e)
    generalize (⟨a.toArray⟩ : ByteArray) = x at *
    generalize (⟨a'.toArray⟩ : ByteArray) = y at *
    have hxy : (x.toList == y.toList) = false := ba_ne hx
    clear HS e hx hab
    go_enter Tryd.func70, Tryd.ntmps70
    go_wp2_with fail
    go_ret
    exact ⟨rfl, HB.out⟩
end Go.Proofs.YtmoihgniglomiaaDoor
