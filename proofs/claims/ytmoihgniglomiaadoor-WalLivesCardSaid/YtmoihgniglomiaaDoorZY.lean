/- Arguments that are slices of texts, and slices of calls, read as such within the form's reach; what a call leaves that lays new memory alone. No condition. -/
import Derived.Test.YtmoihgniglomiaaDoorRows
import Derived.WalkKit
import Derived.ProofKit
import Derived.OpenShut
import Derived.Deep.DeepHandedRow
import Derived.Deep.DeepWitnessRowRef
import Derived.PinnedBridge
import Derived.Below
import Derived.Lib.SmallJoins
import Derived.SizedLaws
import Derived.ChangeMaps5
import Derived.ShutString
import Derived.Deep.SlicePairs
import Derived.Deep.Strs
import Derived.Carry
import Derived.Test.YtmoihgniglomiaaDoorZU
set_option linter.unusedVariables false
set_option linter.unusedSimpArgs false
set_option maxRecDepth 100000
namespace Go.Proofs.YtmoihgniglomiaaDoor
open Go.ChangeShapes Go.WideShapes Go.ChangeAt Go.ChangeMaps Go.RowKit Go.Deep

theorem own : ownKnob Tryd.prog.godebug = none := by kernel_rfl
section
variable {H : Type} {enc : TypeId × Value → H} {P : Program}
/-- behind a call of which it is known that nothing that was there has turned -/
theorem post_below {f : Func} {s : ChangeSpec} {apart fresh handsOn again : Bool} {W W' : World} {args : Array Value} {v : Value} {ds gs : List (DataW H)} {before pa pv : List MemPlace}
    (hW : DataW.Whole enc P f.params.toList s.vars apart W args.toList ds gs before)
    (hres : ∀ (b : Nat) (sp : Nat → Bool) (hd : Bool), DataW.TrodAll enc P W' b sp hd f.resultTypes.toList (v.resultList f.resultTypes.size) (s.fn H (ds ++ gs)).results [])
    (hargs : ∀ sp : Nat → Bool, (∀ p ∈ before, sp p.block = true) → DataW.TrodAll enc P W' 0 sp true f.params.toList args.toList (s.fn H (ds ++ gs)).args pa)
    (hvars : ∀ sp : Nat → Bool, (∀ p ∈ before, sp p.block = true) → DataW.TrodVars enc P W' sp s.vars (s.fn H (ds ++ gs)).vars pv)
    (hps : before = pa ++ pv) (hb : Below W.heap.size W W')
    (hok : ∀ (j : Nat) (t : TypeId) (r : Value), f.resultTypes[j]? = some t → (v.resultList f.resultTypes.size)[j]? = some r → Value.okWide P W' .any 0 t r) :
    s.post enc P f apart fresh handsOn again W args v W' := by
  have hlt : ∀ p ∈ before, p.block < W.heap.size := fun p hp => hW.lt p hp
  have hold : ∀ p ∈ before, (fun b => decide (b < W.heap.size)) p.block = true := fun p hp => by simpa using hlt p hp
  refine ⟨ds, gs, before, [], pa, pv, hW, hres _ _ _, hargs _ hold, hvars _ hold, World.keptBut_mono (fun p hp => ⟨hp, ?_⟩) (hb.frame (· ∈ before)), fun _ => ?_⟩
  · rw [hps, List.mem_append] at hp
    exact Or.inr hp
  · obtain ⟨_, _, _, _, _, hz, hn⟩ := hW
    refine ⟨hok, _, _, ([] ++ pa) ++ pv, ⟨[] ++ pa, pv, trodAll_append (hargs _ (fun _ _ => rfl)) (hres _ _ _), hvars _ (fun _ _ => rfl), rfl, ?_, ?_⟩, ?_⟩
    · intro b off hp
      have hin : MemPlace.cell b off ∈ before := by rw [hps]; simpa using hp
      rw [hb.frozen (hlt _ hin)]
      exact hz b off hin
    · intro ha
      have := hn ha
      rw [hps] at this
      simpa using this
    · intro p hp _
      rw [hps]
      simpa using hp
end
section
variable {H : Type} {enc : TypeId × Value → H}
theorem reach_is : reachBytes ≤ 140737488351232 := by decide
theorem wf_int {n : Int} (h : (Lit.int .i64 n).wf = true) : -9223372036854775808 ≤ n ∧ n ≤ 9223372036854775807 := by
  simpa [Lit.wf, IntKind.min, IntKind.max, IntKind.signed, IntKind.bits] using h
theorem laidOut : laidOutB Tryd.prog = true := by kernel_rfl
theorem read22 : Tryd.prog.readableRec 31 = true := by kernel_rfl
theorem row22 : 31 < Tryd.prog.types.size := of_decide_eq_true (by kernel_rfl)
theorem read23 : Tryd.prog.readableRec 26 = true := by kernel_rfl
theorem row23 : 26 < Tryd.prog.types.size := of_decide_eq_true (by kernel_rfl)
theorem read35 : Tryd.prog.readableRec 46 = true := by kernel_rfl
theorem row35 : 46 < Tryd.prog.types.size := of_decide_eq_true (by kernel_rfl)
/-- an argument reads, behind a call that leaves all that was there as it was, as it read ahead of it -/
theorem trod_keep {t : TypeId} (hr : Tryd.prog.readableRec t = true) (hrow : t < Tryd.prog.types.size) {W W' : World} {v : Value} {d : DataW H} {ps : List MemPlace}
    (h : DataW.Trod enc Tryd.prog W 0 (fun _ => true) true t v d ps) (hb : Below W.heap.size W W') (hlt : ∀ x ∈ ps, x.block < W.heap.size) (sp : Nat → Bool) (hsp : ∀ x ∈ ps, sp x.block = true) :
    DataW.Trod enc Tryd.prog W' 0 sp true t v d ps :=
  WideElems.Trod_stays laidOut hr hrow h (fun x hx => hb.same (hlt x hx)) hsp
theorem cells35 : Tryd.prog.cellsOf 46 = 5 := by kernel_rfl
theorem bytes35 : Tryd.prog.bytesOf 46 = 48 := by kernel_rfl
theorem bytes9 : Tryd.prog.bytesOf 9 = 16 := by kernel_rfl
theorem cells3 : Tryd.prog.cellsOf 3 = 1 := by kernel_rfl
theorem cells9 : Tryd.prog.cellsOf 9 = 1 := by kernel_rfl
theorem add_off {a : Addr} {W : World} {v : Value} (h : W.cell? a = some v) (j : Nat) : a.add j = ⟨a.block, a.off + j, none⟩ := by
  have hspot : a = ⟨a.block, a.off, none⟩ := by
    obtain ⟨ab, ao, asp⟩ := a
    cases asp with
    | none => rfl
    | some x =>
      exfalso
      unfold World.cell? at h
      split at h <;> simp at h
  rw [hspot]
  unfold Addr.add
  split
  · rename_i h; subst h; rfl
  · rfl
theorem weights_all {t : TypeId} {n : Nat} {d : DataW H} : ∀ {l : List (DataW H)}, d ∈ l → n ∈ d.weights Tryd.prog t → n ∈ DataW.weightsAll Tryd.prog t l
  | x :: r, hd, hn => by
    simp only [DataW.weightsAll, List.mem_append]
    cases List.mem_cons.1 hd with
    | inl e => subst e; exact .inl hn
    | inr e => exact .inr (weights_all e hn)
theorem open_strs22 {W : World} {b0 : Nat} {v : Value} {d : DataW H} {ps : List MemPlace} (hv : Value.okWide Tryd.prog W .any b0 31 v) (h : DataW.Trod enc Tryd.prog W 0 (fun _ => true) true 31 v d ps) :
    ∃ l : List ByteArray, StrIn W v l := by
  obtain ⟨A, n, c, rfl⟩ := okWide_slice Tryd.underlying31 hv
  obtain ⟨fuel, hf⟩ := h
  rcases open_strs Tryd.underlying31 Tryd.underlying9 cells9 hf with ⟨hc, hx⟩ | ⟨a, len, cap, m, Sx, hc, _, hl, hm, hmm, hx, hi⟩
  · have e : Value.slice A n c = .slice none 0 0 := by simpa [Value.cells] using hc
    rw [e]
    exact ⟨[], none, 0, rfl, fun h => absurd rfl h⟩
  · have e : Value.slice A n c = .slice (some a) len cap := by simpa [Value.cells] using hc
    rw [e]
    have hlm : len ≤ m := by rw [hmm]; simp; exact hl
    have hlen : ((List.range len).map Sx).length = len := by simp
    refine ⟨(List.range len).map Sx, some a, cap, by rw [hlen], fun hne => ?_⟩
    have h0 : 0 < len := by
      rcases Nat.eq_zero_or_pos len with h | h
      · subst h; exact absurd rfl hne
      · exact h
    obtain ⟨c0, _⟩ := hi 0 (by omega)
    have e0 : a.add 0 = a := by simp [Addr.add]
    rw [e0] at c0
    have hadd := add_off c0
    refine ⟨a.block, a.off, by have := hadd 0; rw [e0] at this; rw [this], World.block_lt_of_cell? W _ c0, fun i hi' => ?_⟩
    have hil : i < len := by simpa using hi'
    obtain ⟨ci, _⟩ := hi i (by omega)
    rw [hadd] at ci
    simpa using ci
/-- a call, out of its five cells -/
theorem open_op {W : World} {sp : Nat → Bool} {held : Bool} {fuel : Nat} {cs : List Value} {x : DataW H × List MemPlace} (h : DataW.trod enc Tryd.prog W 0 sp held fuel 46 cs = some x) (hw : ∀ n ∈ x.1.weights Tryd.prog 46, n ≤ 140737488351232) :
    ∃ o : Op, cs = o.cells ∧ OpOk o ∧ x = (.agg [.lit (.int .i64 o.on), .lit (.int .i64 o.kind), .lit (.int .i64 o.a), .lit (.int .i64 o.b), .lit (.string o.s.data.toList)], []) := by
  obtain ⟨xs, n, rfl, rfl, hlen, hxl, hf⟩ := DataW.trod_struct Tryd.underlying46 h
  rw [cells35] at hlen
  match xs, hxl, cs, hlen with
  | [y0, y1, y2, y3, y4], _, [v0, v1, v2, v3, v4], _ =>
    have g0 := hf 0 _ rfl
    have g1 := hf 1 _ rfl
    have g2 := hf 2 _ rfl
    have g3 := hf 3 _ rfl
    have g4 := hf 4 _ rfl
    simp [cells3, cells9] at g0 g1 g2 g3 g4
    obtain ⟨n0, e0, x0, w0⟩ := DataW.trod_int Tryd.underlying3 g0
    obtain ⟨n1, e1, x1, w1⟩ := DataW.trod_int Tryd.underlying3 g1
    obtain ⟨n2, e2, x2, w2⟩ := DataW.trod_int Tryd.underlying3 g2
    obtain ⟨n3, e3, x3, w3⟩ := DataW.trod_int Tryd.underlying3 g3
    obtain ⟨s, e4, x4, w4⟩ := DataW.trod_string Tryd.underlying9 g4
    simp only [List.cons.injEq, and_true] at e0 e1 e2 e3 e4
    subst e0 e1 e2 e3 e4 x0 x1 x2 x3 x4
    have hs : s.data.toList.length ≤ 140737488351232 := hw _ (by simp [DataW.weights, Tryd.underlying46, DataW.weightsEach])
    have b0 := wf_int w0
    have b1 := wf_int w1
    have b2 := wf_int w2
    have b3 := wf_int w3
    refine ⟨⟨n0, n1, n2, n3, s⟩, rfl, ⟨b0.1, b0.2, b1.1, b1.2, b2.1, b2.2, b3.1, b3.2, ?_⟩, rfl⟩
    rw [ba_size] at hs
    show s.size ≤ _
    omega
theorem open_ops23 {W : World} {b0 : Nat} {v : Value} {d : DataW H} {ps : List MemPlace} (hv : Value.okWide Tryd.prog W .any b0 26 v) (h : DataW.Trod enc Tryd.prog W 0 (fun _ => true) true 26 v d ps)
    (hw : ∀ n ∈ d.weights Tryd.prog 26, n ≤ 140737488351232) : ∃ l : List Op, OpsIn W v l ∧ (∀ x ∈ l, OpOk x) ∧ l.length ≤ 2932031007402 := by
  obtain ⟨A, n, c, rfl⟩ := okWide_slice Tryd.underlying26 hv
  obtain ⟨fuel, hf⟩ := h
  rcases open_slice Tryd.underlying26 hf with ⟨hc, hx⟩ | ⟨a, len, cap, m, n', D, Pl, hc, _, hl, hm, hmm, hx, hi⟩
  · have e : Value.slice A n c = .slice none 0 0 := by simpa [Value.cells] using hc
    rw [e]
    exact ⟨[], ⟨none, 0, rfl, fun h => absurd rfl h⟩, by simp, by simp⟩
  · have e : Value.slice A n c = .slice (some a) len cap := by simpa [Value.cells] using hc
    rw [e]
    obtain ⟨hd, _⟩ := Prod.mk.inj hx
    subst hd
    have hlm : len ≤ m := by rw [hmm]; simp; exact hl
    have hlw : (len + (m - len)) * 48 ≤ 140737488351232 := hw _ (by simp [DataW.weights, Tryd.underlying26, bytes35])
    have each : ∀ i, ∃ o : Op, i < len → OpOk o ∧ W.cell? (a.add (i * 5)) = some (.int .i64 o.on) ∧ W.cell? ((a.add (i * 5)).add 1) = some (.int .i64 o.kind) ∧ W.cell? ((a.add (i * 5)).add 2) = some (.int .i64 o.a) ∧ W.cell? ((a.add (i * 5)).add 3) = some (.int .i64 o.b) ∧ W.cell? ((a.add (i * 5)).add 4) = some (.string o.s) := by
      intro i
      by_cases hil : i < len
      · obtain ⟨cs', h2, h3⟩ := hi i (by omega)
        rw [cells35] at h2
        obtain ⟨o, rfl, hok, _⟩ := open_op h3 (fun n hn => hw n (by
          simp only [DataW.weights, Tryd.underlying26, List.mem_cons, List.mem_append]
          exact .inr (.inl (weights_all (List.mem_map.2 ⟨i, List.mem_range.2 hil, rfl⟩) hn))))
        obtain ⟨_, _, hcell⟩ := World.cells?_some h2
        refine ⟨o, fun _ => ⟨hok, ?_, hcell 1 (by simp [Op.cells]), hcell 2 (by simp [Op.cells]), hcell 3 (by simp [Op.cells]), hcell 4 (by simp [Op.cells])⟩⟩
        have := hcell 0 (by simp [Op.cells])
        have e0 : (a.add (i * 5)).add 0 = a.add (i * 5) := by simp [Addr.add]
        rw [e0] at this
        exact this
      · exact ⟨⟨0, 0, 0, 0, ⟨#[]⟩⟩, fun h => absurd h hil⟩
    obtain ⟨F, hF⟩ := Classical.skolem.1 each
    have hlen : ((List.range len).map F).length = len := by simp
    refine ⟨(List.range len).map F, ⟨some a, cap, by rw [hlen], fun hne => ?_⟩, ?_, by rw [hlen]; omega⟩
    · have h0 : 0 < len := by
        rcases Nat.eq_zero_or_pos len with h | h
        · subst h; exact absurd rfl hne
        · exact h
      have c0 := (hF 0 h0).2.1
      have e0 : a.add (0 * 5) = a := by simp [Addr.add]
      rw [e0] at c0
      have hadd := add_off c0
      refine ⟨a.block, a.off, by have := hadd 0; simpa [Addr.add] using this, World.block_lt_of_cell? W _ c0, fun i hi' => ?_⟩
      have hil : i < len := by rwa [hlen] at hi'
      obtain ⟨f1, f2, f3, f4, f5, f6⟩ := hF i hil
      have hadd2 := add_off f2
      rw [hadd2] at f3 f4 f5 f6
      rw [hadd] at f2 f3 f4 f5 f6
      have hg : ((List.range len).map F)[i] = F i := by simp
      rw [hg]
      exact ⟨f2, f3, f4, f5, f6⟩
    · intro o ho
      obtain ⟨i, hir, rfl⟩ := List.mem_map.1 ho
      exact (hF i (List.mem_range.1 hir)).1
end
end Go.Proofs.YtmoihgniglomiaaDoor
