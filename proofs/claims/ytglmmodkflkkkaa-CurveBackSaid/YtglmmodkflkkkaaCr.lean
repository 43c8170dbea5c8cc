/- A point is read from its bytes as what it was, and what is read is told by the same bytes: the law's walk. No condition but that each number is below 2 to the 256, and the length of the bytes. -/
import Derived.Test.YtglmmodkflkkkaaCq
set_option linter.unusedVariables false
set_option linter.unusedSimpArgs false
set_option maxRecDepth 100000
namespace Go.Proofs.Ytglmmodkflkkkaa
open Go.RowKit Go.Sort Limbs

theorem qZ : ∀ w, (Op.equalIn 10000 51 (.agg #[.int .u64 (lb 0 0 : Nat), .int .u64 (lb 0 1 : Nat), .int .u64 (lb 0 2 : Nat), .int .u64 (lb 0 3 : Nat), .int .u64 (lb 0 0 : Nat), .int .u64 (lb 0 1 : Nat), .int .u64 (lb 0 2 : Nat), .int .u64 (lb 0 3 : Nat), .bool false]) (.agg #[.int .u64 0, .int .u64 0, .int .u64 0, .int .u64 0, .int .u64 0, .int .u64 0, .int .u64 0, .int .u64 0, .bool false])).run Try.prog w = .ok true w := fun w => by
  have h := eqP 0 0 0 0 false false (by decide) (by decide) (by decide) (by decide) w
  have h2 : (Op.equalIn 10000 51 (pn 0 0 false) (pn 0 0 false)).run Try.prog w = .ok true w := by simpa using h
  exact h2
theorem eq_same {p : Po} (hp : p.ok) : ∀ w, (Op.equalIn 10000 51 p.v p.v).run Try.prog w = .ok true w := fun w => by
  have h := eqP p.x p.y p.x p.y p.i p.i hp.1 hp.2 hp.1 hp.2 w
  have h2 : (Op.equalIn 10000 51 (pn p.x p.y p.i) (pn p.x p.y p.i)).run Try.prog w = .ok true w := by simpa using h
  exact h2
set_option maxHeartbeats 16000000 in
theorem curveback_walk (p : Po) (hp : p.ok) (s : List UInt8) (hs : s.length ≤ 140737488351232) (w : World) :
    Calls Try.prog 13 #[p.v, .string ⟨s.toArray⟩] w fun r w' => r = .returned (.bool true) ∧ Below w.heap.size w w' := by
  have HAW := Lib.hid awake7_any
  have hB := bytesp hp
  have hO := onj hp
  have HS := Lib.hid (of_c s hs)
  have hQ := eq_same hp
  cases hon : p.on
  · rw [hon] at hO
    rw [if_neg (by rw [hon]; simp)] at hB
    have HB := Lib.hid hB
    have HO := Lib.hid hO
    clear hB hO hon hp hQ
    obtain ⟨x, y, i⟩ := p
    simp only [Po.v, pn] at HB HO ⊢
    generalize hS : (⟨s.toArray⟩ : ByteArray) = S at *
    go_enter Try.func13, Try.ntmps13
    go_wp2_with fail
    refine (keep w.heap.size w (HB.out _) (by go_grown) (Nat.le_refl _)).mono ?_
    rintro e w1 ⟨rfl, hb, hk⟩
    have K1 : Hid (Bk 51 w1 w.heap.size #[.int .u64 (lb x 0 : Nat), .int .u64 (lb x 1 : Nat), .int .u64 (lb x 2 : Nat), .int .u64 (lb x 3 : Nat), .int .u64 (lb y 0 : Nat), .int .u64 (lb y 1 : Nat), .int .u64 (lb y 2 : Nat), .int .u64 (lb y 3 : Nat), .bool i]) := Lib.hid (Bk.below (Bk.new rfl) hk)
    have HB1 := Lib.hid hb
    clear hk hb HB
    go_wp2_with fail
    refine (keep w.heap.size w (HAW.out _) HB1.out (Nat.le_refl _)).mono ?_
    rintro e w2 ⟨rfl, hb, hk⟩
    have K2 := Lib.hid (Bk.below K1.out hk)
    have HB2 := Lib.hid hb
    clear hk hb HB1 K1 HAW
    obtain ⟨⟨a0, a1, a2, a3⟩, ⟨a4, a5, a6, a7⟩, a8⟩ := K2.out.cells9
    go_wp2_with fail
    refine (keep w.heap.size w (HO.out _) HB2.out (Nat.le_refl _)).mono ?_
    rintro e w3 ⟨rfl, hb, hk⟩
    have HB3 := Lib.hid hb
    clear hk hb HB2 K2 HO a0 a1 a2 a3 a4 a5 a6 a7 a8
    go_wp2_with fail
    subst hS
    cases hof : Po.of s with
    | none =>
      rw [hof] at HS
      simp only [Po.ret, pn] at HS
      refine (keep w.heap.size w (HS.out _) HB3.out (Nat.le_refl _)).mono ?_
      rintro e w8 ⟨rfl, hb, hk⟩
      have heqz := qZ
      clear hk
      go_wp2_with fail
      go_ret
      refine ⟨rfl, ?_⟩
      have hs := hb.size
      go_grown
    | some r =>
      obtain ⟨hon2, hby2, hrok⟩ := bytes_of hof
      rw [hof] at HS
      have HB3 := bytesp hrok
      rw [if_pos hon2, hby2] at HB3
      have HR := Lib.hid HB3
      have HON := onj hrok
      rw [hon2] at HON
      have HO2 := Lib.hid HON
      clear HB3 HON hon2 hby2 hrok hof
      obtain ⟨u, v, k⟩ := r
      simp only [Po.ret, Po.v, pn] at HS HR HO2
      refine (keep w.heap.size w (HS.out _) HB3.out (Nat.le_refl _)).mono ?_
      rintro e w8 ⟨rfl, hb, hk⟩
      have HB8 := Lib.hid hb
      clear hk hb HS
      go_wp2_with fail
      refine (keep w.heap.size w (HR.out _) (by have hb := HB8.out; have hs := hb.size; go_grown) (Nat.le_refl _)).mono ?_
      rintro e w9 ⟨rfl, hb, hk⟩
      have K9 : Hid (Bk 51 w9 w8.heap.size #[.int .u64 (lb u 0 : Nat), .int .u64 (lb u 1 : Nat), .int .u64 (lb u 2 : Nat), .int .u64 (lb u 3 : Nat), .int .u64 (lb v 0 : Nat), .int .u64 (lb v 1 : Nat), .int .u64 (lb v 2 : Nat), .int .u64 (lb v 3 : Nat), .bool k]) := Lib.hid (Bk.below (Bk.new rfl) hk)
      have HB9 := Lib.hid hb
      clear hk hb HR HB8
      generalize w8.heap.size = g9 at K9 ⊢
      obtain ⟨⟨b0, b1, b2, b3⟩, ⟨b4, b5, b6, b7⟩, b8⟩ := K9.out.cells9
      go_wp2_with fail
      refine (keep w.heap.size w (HO2.out _) HB9.out (Nat.le_refl _)).mono ?_
      rintro e w10 ⟨rfl, hb, hk⟩
      go_wp2_with fail
      go_ret
      exact ⟨rfl, hb⟩
  · rw [hon] at hO
    rw [if_pos hon] at hB
    have HB := Lib.hid hB
    have HO := Lib.hid hO
    have hlen : p.bytes.length ≤ 140737488351232 := by
      unfold Po.bytes
      split <;> simp [nb_length]
    have hF := of_c p.bytes hlen
    rw [of_bytes hon] at hF
    have HF := Lib.hid hF
    have HQ := Lib.hid hQ
    clear hB hO hon hp hQ hF hlen
    generalize p.bytes = pb at *
    obtain ⟨x, y, i⟩ := p
    simp only [Po.ret, Po.v, pn] at HB HO HF HQ ⊢
    generalize hS : (⟨s.toArray⟩ : ByteArray) = S at *
    generalize hPB : (⟨pb.toArray⟩ : ByteArray) = PB at *
    go_enter Try.func13, Try.ntmps13
    go_wp2_with fail
    refine (keep w.heap.size w (HB.out _) (by go_grown) (Nat.le_refl _)).mono ?_
    rintro e w1 ⟨rfl, hb, hk⟩
    have K1 : Hid (Bk 51 w1 w.heap.size #[.int .u64 (lb x 0 : Nat), .int .u64 (lb x 1 : Nat), .int .u64 (lb x 2 : Nat), .int .u64 (lb x 3 : Nat), .int .u64 (lb y 0 : Nat), .int .u64 (lb y 1 : Nat), .int .u64 (lb y 2 : Nat), .int .u64 (lb y 3 : Nat), .bool i]) := Lib.hid (Bk.below (Bk.new rfl) hk)
    have HB1 := Lib.hid hb
    clear hk hb HB
    go_wp2_with fail
    refine (keep w.heap.size w (HAW.out _) HB1.out (Nat.le_refl _)).mono ?_
    rintro e w2 ⟨rfl, hb, hk⟩
    have K2 := Lib.hid (Bk.below K1.out hk)
    have HB2 := Lib.hid hb
    clear hk hb HB1 K1 HAW
    obtain ⟨⟨a0, a1, a2, a3⟩, ⟨a4, a5, a6, a7⟩, a8⟩ := K2.out.cells9
    go_wp2_with fail
    refine (keep w.heap.size w (HO.out _) HB2.out (Nat.le_refl _)).mono ?_
    rintro e w3 ⟨rfl, hb, hk⟩
    have K3 := Lib.hid (Bk.below K2.out hk)
    have HB3 := Lib.hid hb
    clear hk hb HB2 K2 HO a0 a1 a2 a3 a4 a5 a6 a7 a8
    go_wp2_with fail
    refine (keep w.heap.size w (HF.out _) HB3.out (Nat.le_refl _)).mono ?_
    rintro e w4 ⟨rfl, hb, hk⟩
    have K4 := Lib.hid (Bk.below K3.out hk)
    have HB4 : Hid (Below w.heap.size w (w4.alloc (.cells #[.int .u64 (lb x 0 : Nat), .int .u64 (lb x 1 : Nat), .int .u64 (lb x 2 : Nat), .int .u64 (lb x 3 : Nat), .int .u64 (lb y 0 : Nat), .int .u64 (lb y 1 : Nat), .int .u64 (lb y 2 : Nat), .int .u64 (lb y 3 : Nat), .bool i] 51))) := Lib.hid (by have hs := hb.size; go_grown)
    clear hk hb HB3 K3 HF
    obtain ⟨⟨a0, a1, a2, a3⟩, ⟨a4, a5, a6, a7⟩, a8⟩ := K4.out.cellsA9
    have heqp := HQ.out
    go_wp2_with fail
    clear heqp HQ K4 a0 a1 a2 a3 a4 a5 a6 a7 a8
    generalize (w4.alloc (.cells #[.int .u64 (lb x 0 : Nat), .int .u64 (lb x 1 : Nat), .int .u64 (lb x 2 : Nat), .int .u64 (lb x 3 : Nat), .int .u64 (lb y 0 : Nat), .int .u64 (lb y 1 : Nat), .int .u64 (lb y 2 : Nat), .int .u64 (lb y 3 : Nat), .bool i] 51)) = V4 at HB4 ⊢
    subst hS
    clear hPB
    cases hof : Po.of s with
    | none =>
      rw [hof] at HS
      simp only [Po.ret, pn] at HS
      refine (keep w.heap.size w (HS.out _) HB4.out (Nat.le_refl _)).mono ?_
      rintro e w8 ⟨rfl, hb, hk⟩
      have heqz := qZ
      clear hk
      go_wp2_with fail
      go_ret
      refine ⟨rfl, ?_⟩
      have hs := hb.size
      go_grown
    | some r =>
      obtain ⟨hon2, hby2, hrok⟩ := bytes_of hof
      rw [hof] at HS
      have HB3 := bytesp hrok
      rw [if_pos hon2, hby2] at HB3
      have HR := Lib.hid HB3
      have HON := onj hrok
      rw [hon2] at HON
      have HO2 := Lib.hid HON
      clear HB3 HON hon2 hby2 hrok hof
      obtain ⟨u, v, k⟩ := r
      simp only [Po.ret, Po.v, pn] at HS HR HO2
      refine (keep w.heap.size w (HS.out _) HB4.out (Nat.le_refl _)).mono ?_
      rintro e w8 ⟨rfl, hb, hk⟩
      have HB8 := Lib.hid hb
      clear hk hb HS
      go_wp2_with fail
      refine (keep w.heap.size w (HR.out _) (by have hb := HB8.out; have hs := hb.size; go_grown) (Nat.le_refl _)).mono ?_
      rintro e w9 ⟨rfl, hb, hk⟩
      have K9 : Hid (Bk 51 w9 w8.heap.size #[.int .u64 (lb u 0 : Nat), .int .u64 (lb u 1 : Nat), .int .u64 (lb u 2 : Nat), .int .u64 (lb u 3 : Nat), .int .u64 (lb v 0 : Nat), .int .u64 (lb v 1 : Nat), .int .u64 (lb v 2 : Nat), .int .u64 (lb v 3 : Nat), .bool k]) := Lib.hid (Bk.below (Bk.new rfl) hk)
      have HB9 := Lib.hid hb
      clear hk hb HR HB8
      generalize w8.heap.size = g9 at K9 ⊢
      obtain ⟨⟨b0, b1, b2, b3⟩, ⟨b4, b5, b6, b7⟩, b8⟩ := K9.out.cells9
      go_wp2_with fail
      refine (keep w.heap.size w (HO2.out _) HB9.out (Nat.le_refl _)).mono ?_
      rintro e w10 ⟨rfl, hb, hk⟩
      go_wp2_with fail
      go_ret
      exact ⟨rfl, hb⟩
end Go.Proofs.Ytglmmodkflkkkaa
