/- A disk behind calls that a log may make (made). Conditions: the texts' lengths. -/
import Derived.Test.YtekagnhablkggaaT
set_option linter.unusedVariables false
set_option linter.unusedSimpArgs false
set_option maxRecDepth 100000
namespace Go.Proofs.Ytekagnhablkggaa
open Go.RowKit Go.Sort

structure Op where
  on : Int
  kind : Int
  a : Int
  b : Int
  s : ByteArray
def Op.cells (o : Op) : List Value := [.int .i64 o.on, .int .i64 o.kind, .int .i64 o.a, .int .i64 o.b, .string o.s]
/-- v reads as these calls -/
def OpsIn (w : World) (v : Value) (l : List Op) : Prop :=
  ∃ a c, v = .slice a l.length c ∧ (l ≠ [] → ∃ b o, a = some ⟨b, o, none⟩ ∧ b < w.heap.size ∧ ∀ i (hi : i < l.length), w.cell? ⟨b, o + i * 5, none⟩ = some (.int .i64 l[i].on) ∧ w.cell? ⟨b, o + i * 5 + 1, none⟩ = some (.int .i64 l[i].kind) ∧ w.cell? ⟨b, o + i * 5 + 2, none⟩ = some (.int .i64 l[i].a) ∧ w.cell? ⟨b, o + i * 5 + 3, none⟩ = some (.int .i64 l[i].b) ∧ w.cell? ⟨b, o + i * 5 + 4, none⟩ = some (.string l[i].s))
theorem OpsIn.below {w w' : World} {v : Value} {l : List Op} (h : OpsIn w v l) (hb : Below w.heap.size w w') : OpsIn w' v l := by
  obtain ⟨a, c, hv, hl⟩ := h
  refine ⟨a, c, hv, fun hne => ?_⟩
  obtain ⟨b, o, ha, hlt, hc⟩ := hl hne
  have e : ∀ k, w'.cell? ⟨b, k, none⟩ = w.cell? ⟨b, k, none⟩ := fun k => hb.cell (p := ⟨b, k, none⟩) hlt
  refine ⟨b, o, ha, Nat.lt_of_lt_of_le hlt hb.size, fun i hi => ?_⟩
  simp only [e]
  exact hc i hi
def OpOk (o : Op) : Prop := -9223372036854775808 ≤ o.on ∧ o.on ≤ 9223372036854775807 ∧ -9223372036854775808 ≤ o.kind ∧ o.kind ≤ 9223372036854775807 ∧ -9223372036854775808 ≤ o.a ∧ o.a ≤ 9223372036854775807 ∧ -9223372036854775808 ≤ o.b ∧ o.b ≤ 9223372036854775807 ∧ o.s.size ≤ 140737488355232
def stepM (S : St) (o : Op) : St := if o.kind = 1 then (S.append o.a o.s.data.toList).2 else if o.kind = 2 then S.sync.2 else if o.kind = 3 then (S.cut o.a o.b).2 else S
theorem index23 (b o c n i : Nat) (h : i < n) (w : World) : (Instr.indexAt 23 (.slice (some ⟨b, o, none⟩) n c) (.int .i64 (i : Int))).run Try.prog w = .ok (.pointer (some ⟨b, o + i * 5, none⟩)) w := by
  go_simp
theorem Mut.b {w w' : World} {p p' : Fp} {S : St} (h : Mut w p w' p' S) : p'.v = p.v := by unfold Fp.v; rw [h.2.1]
/-- a disk of the call's own -/
def Own (B : Nat) (w0 w : World) (p : Fp) (S : St) : Prop := Dk w p S ∧ Below B w0 w ∧ ∀ k ∈ p.own, B ≤ k
theorem Own.mut {B : Nat} {w0 w w' : World} {p p' : Fp} {S S' : St} (h : Own B w0 w p S) (hB : B ≤ w0.heap.size) (hm : Mut w p w' p' S') : Own B w0 w' p' S' :=
  ⟨hm.1, h.2.1.trans (hm.2.2.1.below (Nat.le_trans hB h.2.1.size) h.2.2), fun k hk => (hm.2.2.2 k hk).elim (h.2.2 k) (fun e => Nat.le_trans (Nat.le_trans hB h.2.1.size) e)⟩
theorem Own.below {B : Nat} {w0 w w' : World} {p : Fp} {S : St} (h : Own B w0 w p S) (hB : B ≤ w0.heap.size) (hb : Below w.heap.size w w') : Own B w0 w' p S :=
  ⟨h.1.below hb, h.2.1.trans (hb.mono (Nat.le_trans hB h.2.1.size)), h.2.2⟩
theorem Mut.undrewN {w w' : World} {d : Nat} {p p' : Fp} {S : St} (h : Mut (w.drewN d) p w' p' S) : Mut w p w' p' S := ⟨h.1, h.2.1, only_undrawN h.2.2.1, h.2.2.2⟩
set_option maxHeartbeats 16000000 in
theorem made_loop (b o c : Nat) (ops : List Op) (hok : Hid (∀ x ∈ ops, OpOk x)) (hlen : ops.length ≤ 140737488355328) (vf : Value) (w : World) (x y : ByteArray)
    (HN : Hid (Calls Try.prog 7 #[vf] w fun e w' => ∃ p : Fp, e = .returned (.tuple #[p.v, .int .i64 0]) ∧ Dk w' p (St.new x.data.toList y.data.toList) ∧ Below w.heap.size w w' ∧ ∀ k ∈ p.own, w.heap.size ≤ k))
    (hblt : Hid (b < w.heap.size)) (HC : Hid (∀ i (hi : i < ops.length), w.cell? ⟨b, o + i * 5, none⟩ = some (.int .i64 ops[i].on) ∧ w.cell? ⟨b, o + i * 5 + 1, none⟩ = some (.int .i64 ops[i].kind) ∧ w.cell? ⟨b, o + i * 5 + 2, none⟩ = some (.int .i64 ops[i].a) ∧ w.cell? ⟨b, o + i * 5 + 3, none⟩ = some (.int .i64 ops[i].b) ∧ w.cell? ⟨b, o + i * 5 + 4, none⟩ = some (.string ops[i].s))) (n : Nat) (hn : n = ops.length) :
    Calls Try.prog 15 #[vf, .slice (some ⟨b, o, none⟩) n c] w fun e w' => ∃ p : Fp, e = .returned p.v ∧ Own w.heap.size w w' p (ops.foldl stepM (St.new x.data.toList y.data.toList)) := by
  have HN' := HN
  clear HN
  go_enter Try.func15, Try.ntmps15
  go_wp2_with fail
  refine HN'.out.mono ?_
  rintro e w1 ⟨p, rfl, hd, hb, hk⟩
  have O1 : Hid (Own w.heap.size w w1 p (St.new x.data.toList y.data.toList)) := Lib.hid ⟨hd, hb, hk⟩
  clear hd hb hk HN'
  have hvp : p.v = .pointer (some ⟨p.b, 0, none⟩) := rfl
  rw [hvp]
  clear hvp
  go_wp2_with fail
  go_loopw [7] (fun iv wr => ∃ i : Nat, ∃ p' : Fp, i ≤ n ∧ iv = .int .i64 (i : Int) ∧ p'.b = p.b ∧ Hid (Own w.heap.size w wr p' ((ops.take i).foldl stepM (St.new x.data.toList y.data.toList)))) (fun i _ => n - (intOf i).toNat)
  case atStart => exact ⟨0, p, Nat.zero_le _, rfl, rfl, O1⟩
  case round =>
    obtain ⟨i, p', hi, rfl, hpb, JO⟩ := hrel
    by_cases hlt : i < n
    · obtain ⟨op, hop⟩ : ∃ op, ops[i]'(by omega) = op := ⟨_, rfl⟩
      have hcs := HC.out i (by omega)
      rw [hop] at hcs
      have hokp := hok.out op (hop ▸ List.getElem_mem (by omega))
      have htake : (ops.take (i + 1)).foldl stepM (St.new x.data.toList y.data.toList) = stepM ((ops.take i).foldl stepM (St.new x.data.toList y.data.toList)) op := by
        rw [List.take_succ_eq_append_getElem (by omega), List.foldl_append, hop]; rfl
      have HT := Lib.hid htake
      clear htake
      generalize (ops.take i).foldl stepM (St.new x.data.toList y.data.toList) = S at JO HT
      have e : ∀ k, wr.cell? ⟨b, k, none⟩ = w.cell? ⟨b, k, none⟩ := fun k => JO.out.2.1.cell (p := ⟨b, k, none⟩) hblt.out
      simp only [← e] at hcs
      obtain ⟨c0, c1, c2, c3, c4⟩ := hcs
      clear e hop
      have hix := index23 b o c n i hlt
      obtain ⟨_, _, _, _, ha1, ha2, hb1, hb2, hsz⟩ := hokp
      have HP : Hid (p'.v = .pointer (some ⟨p.b, 0, none⟩)) := Lib.hid (by unfold Fp.v; rw [hpb])
      have HPB := Lib.hid hpb
      clear hpb
      by_cases k1 : op.kind = 1
      · have hst : stepM S op = (S.append op.a op.s.data.toList).2 := by simp [stepM, k1]
        rw [hst] at HT
        have t1 : (op.kind == 1) = true := by simp [k1]
        clear hst k1
        have CA := Lib.hid (fun d => append_any p' S op.a op.s (by omega) (wr.drewN d) (JO.out.1.drewN d))
        go_wp2_with fail
        go_still_tail 11, (by kernel_rfl)
        go_wp2_with fail
        have C := CA.out 1
        rw [HP.out] at C
        refine C.mono ?_
        rintro e w2 ⟨rfl, p2, hm⟩
        have O2 : Hid (Own w.heap.size w w2 p2 _) := Lib.hid (JO.out.mut (Nat.le_refl _) (Mut.undrewN hm))
        have HPB2 : Hid (p2.b = p.b) := Lib.hid (hm.2.1.trans HPB.out)
        clear hm C
        go_wp2_with fail
        go_roundw
        case rel => exact ⟨i + 1, p2, by omega, by go_num, HPB2.out, Lib.hid (by rw [HT.out]; exact O2.out)⟩
        case measure => simp [intOf]; omega
      · have t1 : (op.kind == 1) = false := by simpa using k1
        by_cases k2 : op.kind = 2
        · have hst : stepM S op = S.sync.2 := by simp [stepM, k2]
          rw [hst] at HT
          have t2 : (op.kind == 2) = true := by simp [k2]
          clear hst k1 k2
          have CA := Lib.hid (sync_any p' S wr JO.out.1)
          go_wp2_with fail
          have C := CA.out
          rw [HP.out] at C
          refine C.mono ?_
          rintro e w2 ⟨rfl, p2, hm⟩
          have O2 : Hid (Own w.heap.size w w2 p2 _) := Lib.hid (JO.out.mut (Nat.le_refl _) hm)
          have HPB2 : Hid (p2.b = p.b) := Lib.hid (hm.2.1.trans HPB.out)
          clear hm C
          go_wp2_with fail
          go_roundw
          case rel => exact ⟨i + 1, p2, by omega, by go_num, HPB2.out, Lib.hid (by rw [HT.out]; exact O2.out)⟩
          case measure => simp [intOf]; omega
        · have t2 : (op.kind == 2) = false := by simpa using k2
          by_cases k3 : op.kind = 3
          · have hst : stepM S op = (S.cut op.a op.b).2 := by simp [stepM, k3]
            rw [hst] at HT
            have t3 : (op.kind == 3) = true := by simp [k3]
            clear hst k1 k2 k3
            have CA := Lib.hid (fun d => cut_any p' S op.a op.b (wr.drewN d) (JO.out.1.drewN d))
            go_wp2_with fail
            go_still_tail 11, (by kernel_rfl)
            go_wp2_with fail
            have C := CA.out 1
            rw [HP.out] at C
            refine C.mono ?_
            rintro e w2 ⟨rfl, p2, hm⟩
            have O2 : Hid (Own w.heap.size w w2 p2 _) := Lib.hid (JO.out.mut (Nat.le_refl _) (Mut.undrewN hm))
            have HPB2 : Hid (p2.b = p.b) := Lib.hid (hm.2.1.trans HPB.out)
            clear hm C
            go_wp2_with fail
            go_roundw
            case rel => exact ⟨i + 1, p2, by omega, by go_num, HPB2.out, Lib.hid (by rw [HT.out]; exact O2.out)⟩
            case measure => simp [intOf]; omega
          · have hst : stepM S op = S := by simp [stepM, k1, k2, k3]
            rw [hst] at HT
            have t3 : (op.kind == 3) = false := by simpa using k3
            clear hst k1 k2 k3
            go_wp2_with fail
            go_roundw
            case rel => exact ⟨i + 1, p', by omega, by go_num, HPB.out, Lib.hid (by rw [HT.out]; exact JO.out)⟩
            case measure => simp [intOf]; omega
    · have hin : i = ops.length := by omega
      have ht : ops.take i = ops := List.take_of_length_le (by omega)
      rw [ht] at JO
      clear ht
      go_wp2_with fail
      go_ret
      exact ⟨p', by unfold Fp.v; rw [hpb]; rfl, JO.out⟩
set_option maxHeartbeats 16000000 in
theorem made_empty (a : Option Addr) (c : Nat) (vf : Value) (w : World) (x y : ByteArray)
    (HN : Hid (Calls Try.prog 7 #[vf] w fun e w' => ∃ p : Fp, e = .returned (.tuple #[p.v, .int .i64 0]) ∧ Dk w' p (St.new x.data.toList y.data.toList) ∧ Below w.heap.size w w' ∧ ∀ k ∈ p.own, w.heap.size ≤ k)) :
    Calls Try.prog 15 #[vf, .slice a 0 c] w fun e w' => ∃ p : Fp, e = .returned p.v ∧ Own w.heap.size w w' p (St.new x.data.toList y.data.toList) := by
  go_enter Try.func15, Try.ntmps15
  go_wp2_with fail
  refine HN.out.mono ?_
  rintro e w1 ⟨p, rfl, hd, hb, hk⟩
  have O1 : Hid (Own w.heap.size w w1 p (St.new x.data.toList y.data.toList)) := Lib.hid ⟨hd, hb, hk⟩
  clear hd hb hk HN
  have hvp : p.v = .pointer (some ⟨p.b, 0, none⟩) := rfl
  rw [hvp]
  clear hvp
  go_wp2_with fail
  refine wp_loop_rounds 1 ?_
  rw [rounds_succ]
  go_wp2_with fail
  go_ret
  exact ⟨p, rfl, O1.out⟩
theorem made_none (vf vo : Value) (l : List ByteArray) (w : World) (h : StrIn w vf l) (hn : newE l ≠ 0) :
    Calls Try.prog 15 #[vf, vo] w fun e w' => e = .returned (.pointer none) ∧ w = w' := by
  have HN := Lib.hid (new_no vf l w h hn)
  obtain ⟨m, hm⟩ : ∃ m, newE l = m + 1 := ⟨newE l - 1, by omega⟩
  rw [hm] at HN
  have ht : (((m + 1 : Nat) : Int) != 0) = true := by simp; omega
  clear hm hn h
  go_enter Try.func15, Try.ntmps15
  go_wp2_with fail
  refine HN.out.mono ?_
  rintro e w' ⟨rfl, rfl⟩
  go_wp2_with fail
  go_ret
  exact ⟨rfl, rfl⟩
theorem made_any (vf vo : Value) (l : List ByteArray) (ops : List Op) (hok : ∀ x ∈ ops, OpOk x) (hlen : ops.length ≤ 140737488355328) (w : World) (h : StrIn w vf l) (ho : OpsIn w vo ops) (hn : newE l = 0) :
    ∃ x y : ByteArray, l = [x, y] ∧ x.size ≤ 1048576 ∧ y.size ≤ 1048576 ∧ Calls Try.prog 15 #[vf, vo] w fun e w' => ∃ p : Fp, e = .returned p.v ∧ Own w.heap.size w w' p (ops.foldl stepM (St.new x.data.toList y.data.toList)) := by
  obtain ⟨x, y, hl, hx, hy, hN⟩ := new_yes vf l w h hn
  refine ⟨x, y, hl, hx, hy, ?_⟩
  obtain ⟨a, c, rfl, hc⟩ := ho
  by_cases hne : ops = []
  · subst hne
    exact made_empty a c vf w x y (Lib.hid hN)
  · obtain ⟨b, o, rfl, hlt, hcs⟩ := hc hne
    exact made_loop b o c ops (Lib.hid hok) hlen vf w x y (Lib.hid hN) (Lib.hid hlt) (Lib.hid hcs) _ rfl
end Go.Proofs.Ytekagnhablkggaa
