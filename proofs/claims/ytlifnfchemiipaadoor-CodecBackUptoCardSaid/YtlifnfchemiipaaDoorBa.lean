/- PROVED HERE: whatever is written, in base sixteen, in base64url, with percent signs, as a form, is read as what it was (CodecBack, the second form: the text and the pairs together of bulk at most 1048576), tied to the program's text. -/
import Derived.Test.YtlifnfchemiipaaDoorY
import Derived.Test.YtlifnfchemiipaaDoorFb
import Derived.Test.YtlifnfchemiipaaDoorZ
set_option linter.unusedVariables false
set_option linter.unusedSimpArgs false
namespace Go.Proofs.YtlifnfchemiipaaDoor.codecBack
open Go.ChangeShapes Go.WideShapes Go.ChangeAt Go.ChangeMaps Go.RowKit

theorem fromHex_self (s : ByteArray) (w : World) (hs : s.size ≤ 1048576) : Calls Tryd.prog 11 #[.string ⟨(hexL s.data.toList).toArray⟩] w fun e w' => e = .returned (.tuple #[.string s, .int .i64 0]) ∧ Below w.heap.size w w' :=
  (fromHex_any ⟨(hexL s.data.toList).toArray⟩ w (by rw [size_of, hexL_length]; have e0 : s.data.toList.length = s.size := (by simp); omega)).mono fun e w' ⟨he, hb⟩ => ⟨by
    have he' : e = Two (unhexL (hexL s.data.toList)) 10 := he
    rw [he', unhex_hex]; rfl, hb⟩
theorem fromBase_self (s : ByteArray) (w : World) (hs : s.size ≤ 1048576) : Calls Tryd.prog 16 #[.string ⟨(b64L s.data.toList).toArray⟩] w fun e w' => e = .returned (.tuple #[.string s, .int .i64 0]) ∧ Below w.heap.size w w' :=
  (fromBase64_any ⟨(b64L s.data.toList).toArray⟩ w (by rw [size_of, b64L_length]; have e0 : s.data.toList.length = s.size := (by simp); omega)).mono fun e w' ⟨he, hb⟩ => ⟨by
    have he' : e = Two (unb64L (b64L s.data.toList)) 11 := he
    rw [he', dec_enc]; rfl, hb⟩
theorem fromPercent_self (s : ByteArray) (w : World) (hs : s.size ≤ 1048576) : Calls Tryd.prog 20 #[.string ⟨(pctL s.data.toList).toArray⟩] w fun e w' => e = .returned (.tuple #[.string s, .int .i64 0]) ∧ Below w.heap.size w w' :=
  (fromPercent_any ⟨(pctL s.data.toList).toArray⟩ w (by
    rw [size_of]
    have h := pctL_length s.data.toList
    have e0 : s.data.toList.length = s.size := by simp
    omega)).mono fun e w' ⟨he, hb⟩ => ⟨by
    have he' : e = Two (unpctL (pctL s.data.toList)) 12 := he
    rw [he', unpct_pct]; rfl, hb⟩
theorem form_no (v : Value) (l : Parts) (w : World) (hP : PartsIn w v l) (hm : Hm w) (hn : l.length ≤ 1048576) (hz : ∀ p, p ∈ l → p.1.length ≤ 1048576 ∧ p.2.length ≤ 1048576) (h : formL l = none) :
    Calls Tryd.prog 24 #[v] w fun e w' => e = .returned (.tuple #[.string ⟨#[]⟩, .int .i64 14]) ∧ Below w.heap.size w w' :=
  (form_any v l w hP hm (by omega) (fun p hp => by have := hz p hp; omega)).mono fun e w' ⟨he, hb⟩ => ⟨by rw [he, h]; rfl, hb⟩
theorem form_yes (v : Value) (l : Parts) (t : List UInt8) (w : World) (hP : PartsIn w v l) (hm : Hm w) (hn : l.length ≤ 1048576) (hz : ∀ p, p ∈ l → p.1.length ≤ 1048576 ∧ p.2.length ≤ 1048576) (h : formL l = some t) :
    Calls Tryd.prog 24 #[v] w fun e w' => e = .returned (.tuple #[.string ⟨t.toArray⟩, .int .i64 0]) ∧ Below w.heap.size w w' :=
  (form_any v l w hP hm (by omega) (fun p hp => by have := hz p hp; omega)).mono fun e w' ⟨he, hb⟩ => ⟨by rw [he, h]; rfl, hb⟩
theorem fromForm_self (l : Parts) (t : List UInt8) (w : World) (hm : Hm w) (h : formL l = some t) :
    Calls Tryd.prog 26 #[.string ⟨t.toArray⟩] w fun e w' => ∃ v, e = .returned (.tuple #[v, .int .i64 0]) ∧ PartsIn w' v l ∧ Below w.heap.size w w' := by
  have ht : t.length ≤ 8192 := by
    unfold formL at h
    split at h
    · cases h
    · split at h
      · cases h
      · injection h with h; subst h; omega
  refine (fromForm_any ⟨t.toArray⟩ w hm (by rw [size_of]; omega)).mono fun e w' ⟨⟨v, he, hR⟩, hb⟩ => ?_
  have he' : e = .returned (.tuple #[v, .int .i64 (unformL t).1]) := he
  have hR' : Rp w.heap.size v (unformL t).2 w' := hR
  rw [form_back l t h] at he' hR'
  exact ⟨v, he', hR'.parts, hb⟩

set_option maxHeartbeats 4000000 in
set_option maxRecDepth 100000 in
theorem walk (s : ByteArray) (v : Value) (l : Parts) (w : World) (hm : Hm w) (hs : s.size ≤ 1048576) (hP : PartsIn w v l) (hn : l.length ≤ 1048576) (hz : ∀ p, p ∈ l → p.1.length ≤ 1048576 ∧ p.2.length ≤ 1048576) :
    Calls Tryd.prog 8 #[.string s, v] w fun e w' => e = .returned (.bool true) ∧ Below w.heap.size w w' := by
  rcases h : formL l with _ | t
  · have HF := Lib.hid h
    clear h
    go_enter Tryd.func8, Tryd.ntmps8
    go_wp2_with (fail)
    refine (hex_any s _ (by omega)).mono ?_
    rintro e w1 ⟨rfl, b1⟩
    go_wp2_with (fail)
    refine (fromHex_self s _ hs).mono ?_
    rintro e w2 ⟨rfl, b2⟩
    have hb2 := b1.trans (b2.mono b1.size)
    go_wp2_with (fail)
    refine (base64_any s _ (by omega)).mono ?_
    rintro e w3 ⟨rfl, b3⟩
    have hb3 := hb2.trans (b3.mono hb2.size)
    go_wp2_with (fail)
    refine (fromBase_self s _ hs).mono ?_
    rintro e w4 ⟨rfl, b4⟩
    have hb4 := hb3.trans (b4.mono hb3.size)
    go_wp2_with (fail)
    refine (percent_any s _ (by omega)).mono ?_
    rintro e w5 ⟨rfl, b5⟩
    have hb5 := hb4.trans (b5.mono hb4.size)
    go_wp2_with (fail)
    refine (fromPercent_self s _ hs).mono ?_
    rintro e w6 ⟨rfl, b6⟩
    have hb6 := hb5.trans (b6.mono hb5.size)
    go_wp2_with (fail)
    refine (awake_any _ (hm.below hm.lt hb6)).mono ?_
    rintro e w7 ⟨rfl, b7⟩
    have hb7 := hb6.trans (b7.mono hb6.size)
    go_wp2_with (fail)
    refine (form_no v l _ (hP.below hb7) (hm.below hm.lt hb7) hn hz HF.out).mono ?_
    rintro e w8 ⟨rfl, b8⟩
    have hb8 := hb7.trans (b8.mono hb7.size)
    go_wp2_with (fail)
    go_ret
    exact ⟨rfl, hb8⟩
  · have HF := Lib.hid h
    clear h
    go_enter Tryd.func8, Tryd.ntmps8
    go_wp2_with (fail)
    refine (hex_any s _ (by omega)).mono ?_
    rintro e w1 ⟨rfl, b1⟩
    go_wp2_with (fail)
    refine (fromHex_self s _ hs).mono ?_
    rintro e w2 ⟨rfl, b2⟩
    have hb2 := b1.trans (b2.mono b1.size)
    go_wp2_with (fail)
    refine (base64_any s _ (by omega)).mono ?_
    rintro e w3 ⟨rfl, b3⟩
    have hb3 := hb2.trans (b3.mono hb2.size)
    go_wp2_with (fail)
    refine (fromBase_self s _ hs).mono ?_
    rintro e w4 ⟨rfl, b4⟩
    have hb4 := hb3.trans (b4.mono hb3.size)
    go_wp2_with (fail)
    refine (percent_any s _ (by omega)).mono ?_
    rintro e w5 ⟨rfl, b5⟩
    have hb5 := hb4.trans (b5.mono hb4.size)
    go_wp2_with (fail)
    refine (fromPercent_self s _ hs).mono ?_
    rintro e w6 ⟨rfl, b6⟩
    have hb6 := hb5.trans (b6.mono hb5.size)
    go_wp2_with (fail)
    refine (awake_any _ (hm.below hm.lt hb6)).mono ?_
    rintro e w7 ⟨rfl, b7⟩
    have hb7 := hb6.trans (b7.mono hb6.size)
    go_wp2_with (fail)
    refine (form_yes v l t _ (hP.below hb7) (hm.below hm.lt hb7) hn hz HF.out).mono ?_
    rintro e w8 ⟨rfl, b8⟩
    have hb8 := hb7.trans (b8.mono hb7.size)
    go_wp2_with (fail)
    refine (fromForm_self l t _ (hm.below hm.lt hb8) HF.out).mono ?_
    rintro e w9 ⟨v9, rfl, hP9, b9⟩
    have hb9 := hb8.trans (b9.mono hb8.size)
    go_wp2_with (fail)
    refine (same_any v v9 l _ (hP.below hb9) hP9 (by omega)).mono ?_
    rintro e w10 ⟨rfl, b10⟩
    have hb10 := hb9.trans (b10.mono hb9.size)
    go_wp2_with (fail)
    go_ret
    exact ⟨rfl, hb10⟩

theorem contract (H : Type) (enc : TypeId × Value → H) (W : World) (base : Nat) (args : Array Value) (ds gs : List (DataW H)) (before : List MemPlace)
    (hval : ∀ (j : Nat) t v, Tryd.f8.params[j]? = some t → args[j]? = some v → Value.okWide Tryd.prog W .any base t v)
    (hW : DataW.Whole enc Tryd.prog Tryd.f8.params.toList Rows.codecBackSpec.vars false W args.toList ds gs before) (hsh : W.ShapedOpen Tryd.prog) (hk : Rows.uptoSmall H (ds ++ gs) = true) :
    Calls Tryd.prog 8 args W fun e W' => ∃ v, e = .returned v ∧ Rows.codecBackSpec.post enc Tryd.prog Tryd.f8 false true false false W args v W' := by
  have hW' := hW
  obtain ⟨p, q, hA0, hV, rfl, hfz, hnd⟩ := hW
  have hA : DataW.TrodAll enc Tryd.prog W 0 (fun _ => true) true Tryd.f8.params.toList args.toList ds p := hA0
  rw [Tryd.params8] at hA hval
  obtain ⟨v0, vs0, d0, ds0, p0, q0, hargs, rfl, rfl, h0, r0⟩ := trodAll_cons hA
  obtain ⟨v1, vs1, d1, ds1, p1, q1, rfl, rfl, rfl, h1, r1⟩ := trodAll_cons r0
  obtain ⟨rfl, rfl, rfl⟩ := trodAll_nil r1
  obtain rfl : args = #[v0, v1] := by cases args; simp_all
  obtain ⟨rfl, rfl⟩ := trodVars_none hV
  obtain ⟨s0, rfl, rfl, rfl, ws0⟩ := open_string Tryd.underlying9 (hval 0 9 v0 rfl rfl) h0
  have ho1 := hval 1 28 v1 rfl rfl
  clear hA0
  simp only [List.append_nil, List.nil_append] at hW'
  have hlt := fun x hx => hW'.lt x hx
  have hbd := of_decide_eq_true hk
  simp only [Rows.uptoBulkAll, bulk_string, List.append_nil, List.cons_append, List.nil_append] at hbd
  have e0 : s0.data.toList.length = s0.size := by simp
  obtain ⟨l1, hP1, hn1, hz1⟩ := open_parts ho1 h1 (by omega)
  refine (walk s0 v1 l1 W (hm_of_shaped hsh) (by omega) hP1 (by omega) (fun p hp => by have := hz1 p hp; omega)).mono fun e W' ⟨he, hg⟩ => ?_
  subst he
  exact ⟨_, rfl, post_below (pa := p1) (pv := []) hW' (fun _ _ _ => trodAll_cons_mk (shut_bool Tryd.underlying4 _) trodAll_mk0) (fun sp hsp => show DataW.TrodAll enc Tryd.prog W' 0 sp true [9, 28] [.string s0, v1] [.lit (.string s0.data.toList), d1] p1 from by simpa using trodAll_cons_mk (shut_string Tryd.underlying9 ws0) (trodAll_cons_mk (trod_keep read28 row28 h1 hg (fun x hx => hlt x hx) sp (fun x hx => hsp x hx)) (trodAll_mk0))) (fun _ _ => rfl) (by simp)
    hg (ok_one (by kernel_rfl) rfl (okWide_bool_mk Tryd.underlying4 _))⟩

theorem laid_met (os : Os) : laidMet Tryd.prog Rows.codecBackUptoRow.laid ((laidWorld os).forCall (fun _ _ => 0) ⟨#[], #[.string ⟨#[]⟩, .slice none 0 0], []⟩).memory :=
  laidMet_of_run' 300 (by kernel_rfl) (by kernel_rfl)
theorem reads (os : Os) {H : Type} (enc : TypeId × Value → H) : ∃ places, DataW.whole enc Tryd.prog ((laidWorld os).forCall (fun _ _ => 0) ⟨#[], #[.string ⟨#[]⟩, .slice none 0 0], []⟩).memory Tryd.f8.params.toList Rows.codecBackSpec.vars false #[Value.string ⟨#[]⟩, .slice none 0 0].toList 8 = some ([.lit (.string []), .nil], [], places) :=
  ⟨[], by kernel_rfl⟩

set_option maxRecDepth 100000 in
theorem lifted (os : Os) (started : os.Started) (H : Type) (enc : TypeId × Value → H) (F : Stop.Interp) :
    ReturnsInHanded {} Tryd.checked os 8 .any ((Rows.OpenSpec.upto Rows.codecBackSpec).preRow enc Tryd.prog Tryd.f8 Rows.codecBackUptoRow.domain false Rows.codecBackUptoRow.laid) (((Rows.OpenSpec.upto Rows.codecBackSpec).at F).post enc Tryd.prog Tryd.f8 false true false false) := by
  obtain ⟨places, hx⟩ := reads os enc
  refine returnsInHanded_of_row (C := Tryd.checked) (s := Rows.OpenSpec.upto Rows.codecBackSpec) own started (by kernel_rfl) Tryd.func8
    (witness_row_at (enc := enc) (C := Tryd.checked) false (laidWorld os) #[.string ⟨#[]⟩, .slice none 0 0] rfl (by kernel_rfl) (by kernel_rfl) (by kernel_rfl)
      (OpenSpec.preRow_of_cond 8 hx (by kernel_rfl) (fun k hk => by cases hk; kernel_rfl) (by kernel_rfl) (laid_met os))) ?_
  intro W base args ds gs before hval hW _ hcond _ _ hsh _
  exact contract H enc W base args ds gs before hval hW hsh (hcond _ rfl)

theorem said : Rows.CodecBackUptoSaid :=
  OpenClaim.holds_of_cond 8 Tryd.f8 rfl rfl rfl rfl rfl rfl rfl ⟨rfl, rfl, rfl, rfl, rfl⟩ rfl rfl rfl rfl rfl (by kernel_rfl) Tryd.func8 (by kernel_rfl)
    (of_decide_eq_true (by kernel_rfl)) (by unfold Func.isWrapper; first | (rw [if_pos (by decide +kernel)]; kernel_rfl) | (rw [if_neg (by decide +kernel)]; exact ⟨rfl, rfl⟩))
    (fun os started H enc _ F => by rw [OpenClaim.pre_eq_preRow]; exact lifted os started H enc F)

theorem plain (f : FuncId) (fn : Func) (hf : Tryd.pinned.checked.prog.funcNamed "seneschal/seneschallaw01.CodecBack" = some f) (hfn : Tryd.pinned.checked.prog.funcs[f]? = some fn) :
    false = Tryd.pinned.checked.prog.looks [] ∧ ∀ (j : Nat) t, fn.params[j]? = some t → Tryd.pinned.checked.prog.wantsStandIn t = false := by
  obtain rfl : f = 8 := Option.some.inj ((show Tryd.prog.funcNamed "seneschal/seneschallaw01.CodecBack" = some 8 by kernel_rfl).symm.trans hf) |>.symm
  obtain rfl : fn = Tryd.f8 := (Option.some.inj (Tryd.func8.symm.trans hfn)).symm
  refine ⟨by kernel_rfl, fun j t ht => ?_⟩
  rw [Tryd.params8] at ht
  have h := Array.mem_of_getElem? ht
  simp only [List.mem_toArray, List.mem_cons, List.not_mem_nil, or_false, or_self] at h
  rcases h with rfl | rfl
  all_goals first | exact (show Tryd.prog.wantsStandIn 9 = false by as_aux_lemma => kernel_rfl) | exact (show Tryd.prog.wantsStandIn 28 = false by as_aux_lemma => kernel_rfl)

theorem card : Rows.CodecBackUptoCardSaid :=
  Claim7.holds_tied_plain_at .later [] _ _ _ _ said (fun _ h => by cases h) (by kernel_rfl) (fun _ h => by cases h) codecBackUpto_row_tie rfl ⟨rfl, rfl⟩ (by kernel_rfl) rfl plain (by kernel_rfl)
end Go.Proofs.YtlifnfchemiipaaDoor.codecBack
