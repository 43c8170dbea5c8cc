/- PROVED HERE: a form is written and read as the second way writes and reads it, errors alike, and the answer is the caller's own (CodecForm, the second form: the parts and the text together of bulk at most 1048576), tied to the program's text. -/
import Derived.Test.YtlifnfchemiipaaDoorY
import Derived.Test.YtlifnfchemiipaaDoorQ
import Derived.Test.YtlifnfchemiipaaDoorWf
import Derived.Test.YtlifnfchemiipaaDoorWg
import Derived.Test.YtlifnfchemiipaaDoorZ
set_option linter.unusedVariables false
set_option linter.unusedSimpArgs false
namespace Go.Proofs.YtlifnfchemiipaaDoor.codecForm
open Go.ChangeShapes Go.WideShapes Go.ChangeAt Go.ChangeMaps Go.RowKit

/-- a block of pairs that may be written -/
def Bk (g cap : Nat) (w : World) : Prop := ∃ cur, w.heap[g]? = some (.cells cur 34 (0, 0)) ∧ cur.size = cap * 2
theorem Bk.set1 {g cap : Nat} {w : World} (h : Bk g cap w) (o : Nat) (a : Value) : Bk g cap (w.setCell ⟨g, o, none⟩ a) := by
  obtain ⟨cur, hh, hc⟩ := h
  refine ⟨cur.setIfInBounds o a, ?_, by simp [hc]⟩
  simp only [World.setCell, Array.getElem?_modify, if_pos, hh]
  rfl
theorem Bk.set {g cap : Nat} {w : World} (h : Bk g cap w) (o : Nat) (a b : Value) : Bk g cap (w.setCells g o [a, b]) := (h.set1 o a).set1 (o + 1) b
theorem Bk.there {g cap : Nat} {w : World} (h : Bk g cap w) {o : Nat} (ho : o + 2 ≤ cap * 2) : w.there g o 2 := by
  obtain ⟨cur, hh, hc⟩ := h
  intro j hj
  have : o + j < cur.size := by omega
  simp [World.cell?, World.frozen?, hh, this]
theorem Bk.own {g cap : Nat} {w : World} (h : Bk g cap w) {B n : Nat} (hB : B ≤ g) (hn : n ≤ cap) (hc : cap ≤ maxLen) : ∃ xs, w.ownsRow B 34 2 (.slice (some ⟨g, 0, none⟩) n cap) n xs := by
  obtain ⟨cur, hh, hs⟩ := h
  exact ⟨cur.toList.take (n * 2), by simp; omega, .inr ⟨g, cap, cur, rfl, hB, hh, hn, hc, hs, rfl⟩⟩
theorem below_set2 {B : Nat} {a w : World} (h : Below B a w) {g : Nat} (hg : B ≤ g) (o : Nat) (x y : Value) : Below B a (w.setCells g o [x, y]) :=
  (h.setCell (p := ⟨g, o, none⟩) hg x).setCell (p := ⟨g, o + 1, none⟩) hg y
theorem run_le (L : List (List UInt8)) : (runParts L).2.length ≤ L.length := by
  induction L with
  | nil => simp [runParts]
  | cons t ts ih =>
    unfold runParts after
    split
    · simp
    · split
      · simp
      · simp; omega
theorem unform_le (l : List UInt8) : (unformL l).2.length ≤ 64 := by
  unfold unformL
  split
  · simp
  · split
    · simp
    · split
      · simp
      · have := run_le (splitL l); omega
set_option maxHeartbeats 2000000 in
set_option maxRecDepth 100000 in
theorem walk (v : Value) (l : Parts) (s : ByteArray) (w : World) (hm : Hm w) (hP : PartsIn w v l) (hn : l.length ≤ 1048576) (hz : ∀ p, p ∈ l → p.1.length ≤ 1048576 ∧ p.2.length ≤ 1048576) (hs : s.size ≤ 2097152) :
    Calls Tryd.prog 6 #[v, .string s] w fun e w' => e = .returned (.bool true) ∧ Below w.heap.size w w' := by
  obtain ⟨i0, hi, hz0, hz1, hz2⟩ := info_parts infoPart
  go_enter Tryd.func6, Tryd.ntmps6
  go_wp2_with (fail)
  refine (form_any v l _ hP hm (by omega) (fun p hp => by have := hz p hp; omega)).mono ?_
  rintro e w1 ⟨rfl, b1⟩
  unfold Two
  go_wp2_with (fail)
  refine (rform_any v l _ (hP.below b1) hn hz).mono ?_
  rintro e w2 ⟨rfl, b2⟩
  have hb2 := b1.trans (b2.mono b1.size)
  unfold Two
  go_wp2_with (fail)
  refine (awake_any _ (hm.below hm.lt hb2)).mono ?_
  rintro e w3 ⟨rfl, b3⟩
  have hb3 := hb2.trans (b3.mono hb2.size)
  go_wp2_with (fail)
  go_loopw [9] (fun i wr => ∃ k : Nat, k ≤ 2 ∧ i = .int .i64 k ∧ Below w.heap.size w wr) (fun i _ => 2 - (intOf i).toNat)
  case atStart => exact ⟨0, by omega, rfl, hb3⟩
  case round =>
    obtain ⟨k, hk, rfl, hb⟩ := hrel
    by_cases hlt : k < 2
    · have hlti : (k : Int) < 2 := by omega
      go_wp2_with (fail)
      refine (fromForm_any s _ (hm.below hm.lt hb) (by omega)).mono ?_
      rintro e w4 ⟨⟨c, rfl, hc⟩, b4⟩
      have hb4 := hb.trans (b4.mono hb.size)
      go_wp2_with (fail)
      refine (rfromForm_any s _ (by omega)).mono ?_
      rintro e w5 ⟨⟨d, rfl, hd⟩, b5⟩
      have hb5 := hb4.trans (b5.mono hb4.size)
      go_wp2_with (fail)
      refine (same_any c d (unformL s.data.toList).2 _ (hc.below b5).parts hd.parts (by have := unform_le s.data.toList; omega)).mono ?_
      rintro e w6 ⟨rfl, b6⟩
      have hb6 := hb5.trans (b6.mono hb5.size)
      have hc6 := (hc.below b5).below b6
      go_wp2_with (fail)
      rcases hc6.2 with ⟨rfl, hn0⟩ | ⟨g, cap, cur, rfl, hBg, hh, hnc, hcm, hsz, -⟩
      · go_loopw [14] (fun i wr => i = .int .i64 0 ∧ wr = w6) (fun _ _ => 0)
        case atStart => exact ⟨rfl, rfl⟩
        case round =>
          obtain ⟨rfl, rfl⟩ := hrel
          have hown : wr.ownsRow w.heap.size 34 2 (.slice none 0 0) 0 [] := ⟨rfl, .inl ⟨rfl, rfl⟩⟩
          have hsj := hb6.size
          go_wp2_with (at_builtin; refine wpList_append_own _ rfl _ _ 28 rfl w.heap.size 34 i0 _ 2 32 Tryd.underlying28 hi hz0 hz1 hz2 rfl (by decide) _ _ _ rfl (World.ownsRow.alloc hown _) ⟨wr.heap.size, 0, none⟩ 1 1 [.string ⟨#[]⟩, .string s] rfl rfl ?c1 ?c2 ?c3 ?c4 ?c5 ?_)
          case c1 => exact World.news_of_block (heap_alloc_new wr _)
          case c2 => simp [Value.oneCell']
          case c3 => unfold maxLen; omega
          case c4 => omega
          case c5 => simp; omega
          intro v4 w4 h4 hg4 _
          have hb4' : Below w.heap.size w w4 := (hb6.alloc (by omega) _).grown hg4 (by simp; omega) (fun g hk => (World.ownsRow.lt hown g hk).1)
          clear h4 hg4
          go_wp2_with (fail)
          go_roundw
          case rel => exact ⟨k + 1, by omega, by go_num, hb4'⟩
          case measure => simp [intOf]; omega
      · have hbk : Bk g cap w6 := ⟨cur, hh, hsz⟩
        have hBg' : w.heap.size ≤ g := Nat.le_trans hb.size hBg
        have hBg0 := hb.size
        have hnm : (unformL s.data.toList).2.length ≤ 64 := unform_le _
        generalize (unformL s.data.toList).2.length = n at *
        go_loopw [14] (fun i wr => ∃ j : Nat, j ≤ n ∧ i = .int .i64 j ∧ Bk g cap wr ∧ Below w.heap.size w wr) (fun i _ => n - (intOf i).toNat)
        case atStart => exact ⟨0, by omega, rfl, hbk, hb6⟩
        case round =>
          obtain ⟨j, hj, rfl, hk2, hbj⟩ := hrel
          by_cases hjn : j < n
          · have hji : (j : Int) < (n : Int) := by omega
            go_wp2_with (refine wpList_store_mid rfl 34 _ _ rfl g (j * 2) #[.string ⟨#[115, 112, 111, 105, 108, 116]⟩, .string ⟨#[]⟩] rfl rfl (hk2.there (by omega)) (by rw [hi]; simp [hz1]) (by simp [Value.oneCell']) ?_)
            go_roundw
            case rel => exact ⟨j + 1, by omega, by go_num, hk2.set _ _ _, below_set2 hbj hBg' _ _ _⟩
            case measure => simp [intOf]; omega
          · obtain ⟨xs, hown⟩ := hk2.own (n := n) hBg' hnc hcm
            have hsj := hbj.size
            go_wp2_with (at_builtin; refine wpList_append_own _ rfl _ _ 28 rfl w.heap.size 34 i0 _ 2 32 Tryd.underlying28 hi hz0 hz1 hz2 rfl (by decide) _ _ _ rfl (World.ownsRow.alloc hown _) ⟨wr.heap.size, 0, none⟩ 1 1 [.string ⟨#[]⟩, .string s] rfl rfl ?c1 ?c2 ?c3 ?c4 ?c5 ?_)
            case c1 => exact World.news_of_block (heap_alloc_new wr _)
            case c2 => simp [Value.oneCell']
            case c3 => unfold maxLen; omega
            case c4 => omega
            case c5 => simp; omega
            intro v4 w4 h4 hg4 _
            have hb4' : Below w.heap.size w w4 := (hbj.alloc (by omega) _).grown hg4 (by simp; omega) (fun g hk => (World.ownsRow.lt hown g hk).1)
            clear h4 hg4
            go_wp2_with (fail)
            go_roundw
            case rel => exact ⟨k + 1, by omega, by go_num, hb4'⟩
            case measure => simp [intOf]; omega
    · go_wp2_with (fail)
      go_ret
      exact ⟨rfl, hb⟩

theorem contract (H : Type) (enc : TypeId × Value → H) (W : World) (base : Nat) (args : Array Value) (ds gs : List (DataW H)) (before : List MemPlace)
    (hval : ∀ (j : Nat) t v, Tryd.f6.params[j]? = some t → args[j]? = some v → Value.okWide Tryd.prog W .any base t v)
    (hW : DataW.Whole enc Tryd.prog Tryd.f6.params.toList Rows.codecFormSpec.vars false W args.toList ds gs before) (hsh : W.ShapedOpen Tryd.prog) (hk : Rows.uptoSmall H (ds ++ gs) = true) :
    Calls Tryd.prog 6 args W fun e W' => ∃ v, e = .returned v ∧ Rows.codecFormSpec.post enc Tryd.prog Tryd.f6 false true false false W args v W' := by
  have hW' := hW
  obtain ⟨p, q, hA0, hV, rfl, hfz, hnd⟩ := hW
  have hA : DataW.TrodAll enc Tryd.prog W 0 (fun _ => true) true Tryd.f6.params.toList args.toList ds p := hA0
  rw [Tryd.params6] at hA hval
  obtain ⟨v0, vs0, d0, ds0, p0, q0, hargs, rfl, rfl, h0, r0⟩ := trodAll_cons hA
  obtain ⟨v1, vs1, d1, ds1, p1, q1, rfl, rfl, rfl, h1, r1⟩ := trodAll_cons r0
  obtain ⟨rfl, rfl, rfl⟩ := trodAll_nil r1
  obtain rfl : args = #[v0, v1] := by cases args; simp_all
  obtain ⟨rfl, rfl⟩ := trodVars_none hV
  obtain ⟨s1, rfl, rfl, rfl, ws1⟩ := open_string Tryd.underlying9 (hval 1 9 v1 rfl rfl) h1
  have ho0 := hval 0 28 v0 rfl rfl
  clear hA0
  simp only [List.append_nil, List.nil_append] at hW'
  have hlt := fun x hx => hW'.lt x hx
  have hbd := of_decide_eq_true hk
  simp only [Rows.uptoBulkAll, bulk_string, List.append_nil, List.cons_append, List.nil_append] at hbd
  obtain ⟨l0, hP0, hn0, hz0⟩ := open_parts ho0 h0 (by omega)
  have e1 : s1.data.toList.length = s1.size := by simp
  refine (walk v0 l0 s1 W (hm_of_shaped hsh) hP0 (by omega) (fun p hp => by have := hz0 p hp; omega) (by omega)).mono fun e W' ⟨he, hg⟩ => ?_
  subst he
  exact ⟨_, rfl, post_below (pa := p0) (pv := []) hW' (fun _ _ _ => trodAll_cons_mk (shut_bool Tryd.underlying4 _) trodAll_mk0) (fun sp hsp => show DataW.TrodAll enc Tryd.prog W' 0 sp true [28, 9] [v0, .string s1] [d0, .lit (.string s1.data.toList)] p0 from by simpa using trodAll_cons_mk (trod_keep read28 row28 h0 hg (fun x hx => hlt x hx) sp (fun x hx => hsp x hx)) (trodAll_cons_mk (shut_string Tryd.underlying9 ws1) trodAll_mk0)) (fun _ _ => rfl) (by simp)
    hg (ok_one (by kernel_rfl) rfl (okWide_bool_mk Tryd.underlying4 _))⟩

theorem laid_met (os : Os) : laidMet Tryd.prog Rows.codecFormUptoRow.laid ((laidWorld os).forCall (fun _ _ => 0) ⟨#[], #[.slice none 0 0, .string ⟨#[]⟩], []⟩).memory :=
  laidMet_of_run' 300 (by kernel_rfl) (by kernel_rfl)
theorem reads (os : Os) {H : Type} (enc : TypeId × Value → H) : ∃ places, DataW.whole enc Tryd.prog ((laidWorld os).forCall (fun _ _ => 0) ⟨#[], #[.slice none 0 0, .string ⟨#[]⟩], []⟩).memory Tryd.f6.params.toList Rows.codecFormSpec.vars false #[Value.slice none 0 0, .string ⟨#[]⟩].toList 8 = some ([.nil, .lit (.string [])], [], places) :=
  ⟨[], by kernel_rfl⟩

set_option maxRecDepth 100000 in
theorem lifted (os : Os) (started : os.Started) (H : Type) (enc : TypeId × Value → H) (F : Stop.Interp) :
    ReturnsInHanded {} Tryd.checked os 6 .any ((Rows.OpenSpec.upto Rows.codecFormSpec).preRow enc Tryd.prog Tryd.f6 Rows.codecFormUptoRow.domain false Rows.codecFormUptoRow.laid) (((Rows.OpenSpec.upto Rows.codecFormSpec).at F).post enc Tryd.prog Tryd.f6 false true false false) := by
  obtain ⟨places, hx⟩ := reads os enc
  refine returnsInHanded_of_row (C := Tryd.checked) (s := Rows.OpenSpec.upto Rows.codecFormSpec) own started (by kernel_rfl) Tryd.func6
    (witness_row_at (enc := enc) (C := Tryd.checked) false (laidWorld os) #[.slice none 0 0, .string ⟨#[]⟩] rfl (by kernel_rfl) (by kernel_rfl) (by kernel_rfl)
      (OpenSpec.preRow_of_cond 8 hx (by kernel_rfl) (fun k hk => by cases hk; kernel_rfl) (by kernel_rfl) (laid_met os))) ?_
  intro W base args ds gs before hval hW _ hcond _ _ hsh _
  exact contract H enc W base args ds gs before hval hW hsh (hcond _ rfl)

theorem said : Rows.CodecFormUptoSaid :=
  OpenClaim.holds_of_cond 6 Tryd.f6 rfl rfl rfl rfl rfl rfl rfl ⟨rfl, rfl, rfl, rfl, rfl⟩ rfl rfl rfl rfl rfl (by kernel_rfl) Tryd.func6 (by kernel_rfl)
    (of_decide_eq_true (by kernel_rfl)) (by unfold Func.isWrapper; first | (rw [if_pos (by decide +kernel)]; kernel_rfl) | (rw [if_neg (by decide +kernel)]; exact ⟨rfl, rfl⟩))
    (fun os started H enc _ F => by rw [OpenClaim.pre_eq_preRow]; exact lifted os started H enc F)

theorem plain (f : FuncId) (fn : Func) (hf : Tryd.pinned.checked.prog.funcNamed "seneschal/seneschallaw01.CodecForm" = some f) (hfn : Tryd.pinned.checked.prog.funcs[f]? = some fn) :
    false = Tryd.pinned.checked.prog.looks [] ∧ ∀ (j : Nat) t, fn.params[j]? = some t → Tryd.pinned.checked.prog.wantsStandIn t = false := by
  obtain rfl : f = 6 := Option.some.inj ((show Tryd.prog.funcNamed "seneschal/seneschallaw01.CodecForm" = some 6 by kernel_rfl).symm.trans hf) |>.symm
  obtain rfl : fn = Tryd.f6 := (Option.some.inj (Tryd.func6.symm.trans hfn)).symm
  refine ⟨by kernel_rfl, fun j t ht => ?_⟩
  rw [Tryd.params6] at ht
  have h := Array.mem_of_getElem? ht
  simp only [List.mem_toArray, List.mem_cons, List.not_mem_nil, or_false, or_self] at h
  rcases h with rfl | rfl
  all_goals first | exact (show Tryd.prog.wantsStandIn 9 = false by as_aux_lemma => kernel_rfl) | exact (show Tryd.prog.wantsStandIn 28 = false by as_aux_lemma => kernel_rfl)

theorem card : Rows.CodecFormUptoCardSaid :=
  Claim7.holds_tied_plain_at .later [] _ _ _ _ said (fun _ h => by cases h) (by kernel_rfl) (fun _ h => by cases h) codecFormUpto_row_tie rfl ⟨rfl, rfl⟩ (by kernel_rfl) rfl plain (by kernel_rfl)
end Go.Proofs.YtlifnfchemiipaaDoor.codecForm
