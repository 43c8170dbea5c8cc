/- What Kids answers. Condition: the ring. The numbers modulo P; the points of a curve are a group; P-256 has no point with Y 0; points under way stand for points. No condition but that the points are points of the curve. Multiples of points, and that the points are a group: the walks. No condition but that each number is below 2 to the 256. The drawn region of sign's timesBase. No condition. -/
import Derived.Test.YtpggkfdijmnmiaaGreatZuk12
import Derived.Lib.Hide
import Derived.Test.YtpggkfdijmnmiaaGreatZuk05
import Derived.Test.YtpggkfdijmnmiaaGreatZuk09
import Derived.Test.YtpggkfdijmnmiaaGreatZuk10
set_option linter.unusedVariables false
set_option linter.unusedSimpArgs false
set_option maxRecDepth 100000
namespace Go.Proofs.YtpggkfdijmnmiaaGreat
open Go.RowKit Limbs
theorem infoStr : (Tryz.prog.info? 9).map (fun i => (i.zero, i.size, i.bytes)) = some (some (.string ⟨#[]⟩), 1, 16) := by kernel_rfl
theorem apps {ops : Array Oper} {rest : List Oper} {o : Oper} {a : Act} {Q : Exit → Act → World → Prop} {w : World} {B : Nat} {v : Value} {n : Nat} {l : List Value} (b : ByteArray) (s x : Operand) (hgd : o.guard = none)
    (ho : o.op = .call { callee := .builtin .append, args := #[s, x], argTypes := #[44, 44] }) (hs : a.eval s = v) (hx : a.eval x = .slice (some ⟨w.heap.size, 0, none⟩) 1 1)
    (hI : w.ownsRow B 9 1 v n l) (hB : B ≤ w.heap.size) (hlen : n ≤ 1000000)
    (h : ∀ v' w', w'.ownsRow B 9 1 v' (n + 1) (l ++ [.string b]) → (w.alloc (.cells #[.string b] 9)).grownBy w' v.ownBlock → wpList Tryz.prog ops Q rest (a.put o.dst v') w') : wpList Tryz.prog ops Q (o :: rest) a (w.alloc (.cells #[.string b] 9)) := by
  obtain ⟨i0, hi, hz0, hz1, hz2⟩ := info_parts infoStr
  refine wpList_append_own _ hgd s x 44 ho B 9 i0 (.string ⟨#[]⟩) 1 16 Tryz.underlying44 hi hz0 hz1 hz2 rfl (by decide) v n _ hs (hI.alloc _) ⟨w.heap.size, 0, none⟩ 1 1 [.string b] hx rfl (World.news_of_block (heap_alloc_new w _)) (by simp [Value.oneCell']) (by unfold maxLen; omega) (by omega) (by simp; omega) ?_
  intro v' w' h1 h2 _
  exact h v' w' h1 h2
set_option maxHeartbeats 8000000 in
theorem kid_any {w : World} {g : Nat} {s : List UInt8} (h : Bk 121 w g (keyC s)) : Calls Tryz.prog 85 #[kpt g] w fun e w' => e = .returned (.string ⟨(kidOf s).toArray⟩) ∧ w = w' := by
  have c1 := h.cell 1
  unfold keyC at c1
  simp only [List.getElem?_toArray, List.getElem?_cons_succ, List.getElem?_cons_zero] at c1
  unfold kpt
  go_enter Tryz.func85, Tryz.ntmps85
  go_wp2_with fail
  go_returns
  exact ⟨rfl, rfl⟩
def kidV (k : Nat × List UInt8) : Value := .string ⟨(kidOf k.2).toArray⟩
theorem kidOf_len (s : List UInt8) : (kidOf s).length ≤ 281474976710656 := by
  unfold kidOf
  have := Hs.enc_len ((Hs.macL [107, 105, 100] s).take 9) 0 0 (by decide)
  have h9 : ((Hs.macL [107, 105, 100] s).take 9).length ≤ 9 := by simp; omega
  unfold Hs.b64L
  omega
set_option maxHeartbeats 16000000 in
theorem each_any {B : Nat} {w : World} {r : Nat} {ks : List (Nat × List UInt8)} (h : Rg B w r ks) (hl : ks.length ≤ 8) (hn : ks ≠ []) : Calls Tryz.prog 84 #[kpt r, .func (.func 85) #[] #[]] w fun e w' => ∃ v, e = .returned v ∧ w'.ownsRow w.heap.size 9 1 v ks.length (ks.map kidV) ∧ Below w.heap.size w w' := by
  obtain ⟨a, c, h1, h2, h3⟩ := h
  have hc : w.cell? ⟨r, 0, none⟩ = some (.slice (some ⟨a, 0, none⟩) ks.length c) := h1.cell 0
  have HH := Lib.hid (And.intro h1 (And.intro h2 h3))
  clear h1 h2 h3
  have hpos : 0 < ks.length := List.length_pos_iff.2 hn
  obtain ⟨i0, hi, hz0, hz1, hz2⟩ := info_parts infoStr
  obtain ⟨wm, hmk, hown, hgr⟩ := run_makeSlice_owned (P := Tryz.prog) (w := w) w.heap.size 44 9 i0 (.string ⟨#[]⟩) 1 Tryz.underlying44 hi hz0 hz1 .i64 .i64 ks.length (by omega) (by rw [hz2]; omega) (by unfold maxLen; omega) (Nat.le_refl _)
  have hbm : Below w.heap.size w wm := ⟨hgr.os, hgr.tape, hgr.output, hgr.size, fun k hk => hgr.block k hk (fun e => by cases e)⟩
  have HM := Lib.hid (And.intro hown hbm)
  have hc2 : wm.cell? ⟨r, 0, none⟩ = some (.slice (some ⟨a, 0, none⟩) ks.length c) := (HH.out.1.below hbm).cell 0
  clear hi hz0 hz1 hz2 hown hgr hbm hpos
  unfold kpt
  go_enter Tryz.func84, Tryz.ntmps84
  go_wp2_with fail
  clear hmk hc
  go_loopw [5, 19] (fun sv iv wr => ∃ i : Nat, i ≤ ks.length ∧ iv = .int .i64 (i : Int) ∧ Hid (wr.ownsRow w.heap.size 9 1 sv i ((ks.take i).map kidV)) ∧ Hid (Below w.heap.size w wr)) (fun _ iv _ => ks.length - (intOf iv).toNat)
  case atStart => exact ⟨0, Nat.zero_le _, rfl, Lib.hid HM.out.1, Lib.hid HM.out.2⟩
  case round =>
    obtain ⟨i, hi, rfl, ho, hb⟩ := hrel
    clear hc2
    by_cases hlt : i < ks.length
    · obtain ⟨k, hk⟩ : ∃ k, ks[i]'hlt = k := ⟨_, rfl⟩
      have hkm : k ∈ ks := hk ▸ List.getElem_mem hlt
      have K1 := (HH.out.2.2 k hkm).below hb.out
      have c0 : wr.cell? ⟨a, i, none⟩ = some (.pointer (some ⟨k.1, 0, none⟩)) := by
        have := (own_below HH.out.2.1 hb.out).cells (g := a) rfl i (kpt k.1) (by rw [List.getElem?_map, List.getElem?_eq_getElem hlt, hk]; rfl)
        by_cases h0 : i = 0
        · subst h0; simpa [Addr.add, kpt] using this
        · simpa [Addr.add, h0, kpt] using this
      have hltI : (i : Int) < (ks.length : Int) := by omega
      have hkid := kid_any K1
      unfold kpt at hkid
      have HKD := Lib.hid hkid
      have HT : Hid ((ks.take (i + 1)).map kidV = (ks.take i).map kidV ++ [.string ⟨(kidOf k.2).toArray⟩]) := Lib.hid (by rw [List.take_add_one, List.getElem?_eq_getElem hlt, hk]; simp [kidV])
      clear hkid K1 hk hkm
      go_wp2_with fail
      refine HKD.out.mono ?_
      rintro e w1 ⟨rfl, rfl⟩
      go_wp2_with fail
      refine (sclone_any (kidOf k.2) _ (kidOf_len _)).mono ?_
      rintro e w2 ⟨rfl, hb2⟩
      have hb3 := hb.out.trans (hb2.mono hb.out.size)
      have ho2 := own_below ho.out hb2
      go_wp2_with (at_builtin; refine apps _ _ _ rfl rfl rfl rfl ho2 hb3.size (by omega) ?_; intro v' w3 hv hG; obtain ⟨a2, c2, hv2⟩ := own_slice hv; subst hv2; have HV := Lib.hid hv; have HG := Lib.hid hG; clear hv hG)
      go_roundw
      case rel => exact ⟨i + 1, by omega, by go_num, Lib.hid (by rw [HT.out]; exact HV.out), Lib.hid ((hb3.alloc hb3.size _).grown HG.out (by have := hb3.size; simp; omega) (fun q hq => (World.ownsRow.lt ho2 q hq).1))⟩
      case measure => simp [intOf]; omega
    · have hie : i = ks.length := by omega
      have hltI : decide ((i : Int) < (ks.length : Int)) = false := decide_eq_false (by omega)
      go_wp2_with fail
      go_returns
      refine ⟨_, rfl, ?_, hb.out⟩
      have := ho.out
      rw [hie, List.take_length] at this
      exact this
set_option maxHeartbeats 8000000 in
theorem kids_any {B : Nat} {w : World} {r : Nat} {ks : List (Nat × List UInt8)} (h : Rg B w r ks) (hl : ks.length ≤ 8) (hn : ks ≠ []) : Calls Tryz.prog 31 #[kpt r] w fun e w' => ∃ v, e = .returned v ∧ w'.ownsRow w.heap.size 9 1 v ks.length (ks.map kidV) ∧ Below w.heap.size w w' := by
  obtain ⟨a, c, h1, h2, h3⟩ := h
  have hc : w.cell? ⟨r, 0, none⟩ = some (.slice (some ⟨a, 0, none⟩) ks.length c) := h1.cell 0
  have HH := Lib.hid (And.intro h1 (And.intro h2 h3))
  clear h1 h2 h3
  have hpos : 0 < ks.length := List.length_pos_iff.2 hn
  have HE := Lib.hid (each_any ⟨a, c, HH.out.1, HH.out.2.1, HH.out.2.2⟩ hl hn)
  clear hpos hc HH
  unfold kpt at HE ⊢
  go_enter Tryz.func31, Tryz.ntmps31
  go_wp2_with fail
  refine HE.out.mono ?_
  rintro e w1 ⟨v, rfl, ho, hb⟩
  go_wp2_with fail
  go_returns
  exact ⟨_, rfl, ho, hb⟩
end Go.Proofs.YtpggkfdijmnmiaaGreat
namespace Go.Proofs.YtpggkfdijmnmiaaGreat.Curve
def PP : Nat := 115792089210356248762697446949407573530086143415290314195533631308867097853951
theorem PP_prime : Primes.Prm PP := Primes.P256
theorem PP_pos : 0 < PP := by decide
instance : NeZero PP := ⟨by decide⟩
def c (n : Nat) : Fin PP := ⟨n % PP, Nat.mod_lt _ PP_pos⟩
theorem val_c (n : Nat) : (c n).val = n % PP := rfl
theorem c_val (x : Fin PP) : c x.val = x := Fin.ext (by rw [val_c, Nat.mod_eq_of_lt x.isLt])
theorem val_add (x y : Fin PP) : (x + y).val = (x.val + y.val) % PP := rfl
theorem val_mul (x y : Fin PP) : (x * y).val = x.val * y.val % PP := rfl
theorem c_eq {a b : Nat} : c a = c b ↔ a % PP = b % PP := ⟨fun h => congrArg Fin.val h, fun h => Fin.ext h⟩
theorem c_mod (a : Nat) : c (a % PP) = c a := c_eq.2 (Nat.mod_mod _ _)
theorem c_add (a b : Nat) : c (a + b) = c a + c b := Fin.ext (by rw [val_add, val_c, val_c, val_c, Nat.add_mod])
theorem c_mul (a b : Nat) : c (a * b) = c a * c b := Fin.ext (by rw [val_mul, val_c, val_c, val_c, Nat.mul_mod])
theorem c_one : c 1 = 1 := rfl
theorem c_three : c 3 = 3 := rfl
theorem neg_x {x y : Fin PP} (h : x + y = 0) : x = -y := by grobner
theorem c_opp (a : Nat) : c (PP - a % PP) = - c a := by
  refine neg_x ?_
  rw [← c_mod a, ← c_add, Nat.sub_add_cancel (Nat.le_of_lt (Nat.mod_lt _ PP_pos))]
  exact Fin.ext (by rw [val_c]; decide +kernel)
def inv (x : Fin PP) : Fin PP := c (x.val ^ (PP - 2) % PP)
theorem mul_inv (x : Fin PP) (h : x ≠ 0) : x * inv x = 1 := by
  have hv : x.val ≠ 0 := fun h0 => h (Fin.ext h0)
  have hd : ¬ PP ∣ x.val := fun hd => by
    have := Nat.le_of_dvd (Nat.pos_of_ne_zero hv) hd
    have := x.isLt
    omega
  have hf := Primes.fermat PP_prime hd
  apply Fin.ext
  rw [val_mul, inv, val_c, Nat.mod_mod, Nat.mul_mod, Nat.mod_mod, ← Nat.mul_mod, ← Nat.pow_succ', show (PP - 2).succ = PP - 1 by decide, hf]
  rfl
def np (x : Fin PP) : Nat → Fin PP
  | 0 => 1
  | n + 1 => np x n * x
theorem val_np (x : Fin PP) : ∀ n, (np x n).val = x.val ^ n % PP := by
  intro n
  induction n with
  | zero => rfl
  | succ n ih => rw [np, val_mul, ih, Nat.pow_succ, Nat.mod_mul_mod]
theorem np_PP (x : Fin PP) : np x PP = x := by
  apply Fin.ext
  rw [val_np, Primes.fermat_all PP_prime, Nat.mod_eq_of_lt x.isLt]
end Go.Proofs.YtpggkfdijmnmiaaGreat.Curve
set_option linter.unusedVariables false
namespace Go.Proofs.YtpggkfdijmnmiaaGreat.Curve
inductive Pt (K : Type) where
  | far : Pt K
  | aff : K → K → Pt K
section
variable {N : Nat} [NeZero N]
def On (a b : Fin N) : Pt (Fin N) → Prop
  | .far => True
  | .aff x y => y*y = x*x*x + a*x + b
def neg : Pt (Fin N) → Pt (Fin N)
  | .far => .far
  | .aff x y => .aff x (-y)
def Line (a b l n x1 x2 x3 : Fin N) : Prop := x1+x2+x3 = l*l ∧ x1*x2+x1*x3+x2*x3 = a - 2*l*n ∧ x1*x2*x3 = n*n - b
theorem Line.on1 {a b l n x1 x2 x3 : Fin N} (h : Line a b l n x1 x2 x3) : (l*x1+n)*(l*x1+n) = x1*x1*x1+a*x1+b := by
  obtain ⟨e1,e2,e3⟩ := h
  grobner
theorem line_of {a b l n x1 x2 x3 : Fin N} (h : (l*x1+n)*(l*x1+n) = x1*x1*x1+a*x1+b) (e1 : x1+x2+x3 = l*l) (e2 : x1*x2+x1*x3+x2*x3 = a - 2*l*n) : Line a b l n x1 x2 x3 := by
  refine ⟨e1, e2, ?_⟩
  grobner
theorem Line.swap {a b l n x1 x2 x3 : Fin N} (h : Line a b l n x1 x2 x3) : Line a b l n x2 x1 x3 := by
  obtain ⟨e1,e2,e3⟩ := h
  exact ⟨by clear e2 e3; grobner, by clear e1 e3; grobner, by clear e1 e2; grobner⟩
theorem Line.turn {a b l n x1 x2 x3 : Fin N} (h : Line a b l n x1 x2 x3) : Line a b l n x3 x1 x2 := by
  obtain ⟨e1,e2,e3⟩ := h
  exact ⟨by clear e2 e3; grobner, by clear e1 e3; grobner, by clear e1 e2; grobner⟩
theorem Line.opp {a b l n x1 x2 x3 : Fin N} (h : Line a b l n x1 x2 x3) : Line a b (-l) (-n) x1 x2 x3 := by
  obtain ⟨e1,e2,e3⟩ := h
  exact ⟨by clear e2 e3; grobner, by clear e1 e3; grobner, by clear e1 e2; grobner⟩
theorem canc {d e x y : Fin N} (h : d * e = 1) (hx : d * x = d * y) : x = y := by grobner
theorem sub3 {p q u l : Fin N} (e1 : p+q+u = l*l) : p = l*l - q - u := by grobner
theorem subv {r q v m : Fin N} (e1 : r+q+v = m*m) : v = m*m - r - q := by grobner
theorem subn {n l q m k : Fin N} (hq : l*q+n = m*q+k) : n = m*q+k-l*q := by grobner
theorem suba {a r q v m k : Fin N} (f2 : r*q+r*v+q*v = a - 2*m*k) : a = r*q+r*v+q*v + 2*m*k := by grobner
theorem h1x {q u r l m k s : Fin N} (hs : (l - m) * s = l*m - q - r - u)
   (e2 : (l*l - q - u) * q + (l*l - q - u) * u + q * u = r * q + r * (m*m - r - q) + q * (m*m - r - q) + 2 * m * k - 2 * l * (m*q+k-l*q)) : (l - m) * (s*u + ((m*r+k) - s*r)) = (l - m) * (-(l*u+(m*q+k-l*q))) := by grobner
theorem h2x {q u r l m k s : Fin N} (hs : (l - m) * s = l*m - q - r - u)
   (e2 : (l*l - q - u) * q + (l*l - q - u) * u + q * u = r * q + r * (m*m - r - q) + q * (m*m - r - q) + 2 * m * k - 2 * l * (m*q+k-l*q)) : (l - m) * ((l - m) * (r * u + r * (s * s - r - u) + u * (s * s - r - u))) = (l - m) * ((l - m) * (r * q + r * (m*m - r - q) + q * (m*m - r - q) + 2 * m * k - 2 * s * (m * r + k - s * r))) := by grobner
theorem h3x {q u r l m k s : Fin N} (hs : (l - m) * s = l*m - q - r - u)
   (e2 : (l*l - q - u) * q + (l*l - q - u) * u + q * u = r * q + r * (m*m - r - q) + q * (m*m - r - q) + 2 * m * k - 2 * l * (m*q+k-l*q)) : (l - m) * ((s + (l - m))*(m*m - r - q) + ((l*(l*l - q - u)+(m*q+k-l*q)) - (s + (l - m))*(l*l - q - u))) = (l - m) * (-(m*(m*m - r - q)+k)) := by grobner
theorem h4x {q u r l m k s : Fin N} (hs : (l - m) * s = l*m - q - r - u)
   (e2 : (l*l - q - u) * q + (l*l - q - u) * u + q * u = r * q + r * (m*m - r - q) + q * (m*m - r - q) + 2 * m * k - 2 * l * (m*q+k-l*q)) : (l - m) * ((s + (l - m))*(s * s - r - u) + ((l*(l*l - q - u)+(m*q+k-l*q)) - (s + (l - m))*(l*l - q - u))) = (l - m) * (s*(s * s - r - u) + ((m*r+k) - s*r)) := by grobner
theorem h5x {q u r l m k s : Fin N} (hs : (l - m) * s = l*m - q - r - u)
   (e2 : (l*l - q - u) * q + (l*l - q - u) * u + q * u = r * q + r * (m*m - r - q) + q * (m*m - r - q) + 2 * m * k - 2 * l * (m*q+k-l*q)) : (l - m) * ((l - m) * ((l*l - q - u)*(m*m - r - q) + (l*l - q - u) * (s * s - r - u) + (m*m - r - q) * (s * s - r - u))) = (l - m) * ((l - m) * (r * q + r * (m*m - r - q) + q * (m*m - r - q) + 2 * m * k - 2 * (s + (l - m)) * ((l*(l*l - q - u)+(m*q+k-l*q)) - (s + (l - m))*(l*l - q - u)))) := by grobner
theorem h6x {q u r l m s : Fin N} (hs : (l - m) * s = l*m - q - r - u) : (l*l - q - u) + (m*m - r - q) + (s * s - r - u) = (s + (l - m))*(s + (l - m)) := by grobner
theorem e2x {q u r l m k n v p a : Fin N} (e2 : p*q+p*u+q*u = a - 2*l*n) (f2 : r*q+r*v+q*v = a - 2*m*k) : p*q+p*u+q*u = r*q+r*v+q*v + 2*m*k - 2*l*n := by grobner
theorem k1x {r u s : Fin N} : r + u + (s*s - r - u) = s*s := by grobner
theorem k2x {m r k s : Fin N} : s*r + (m*r+k - s*r) = m*r+k := by grobner
theorem t2 {a b p q u r v l m n k s w e' : Fin N} (hd0 : (l - m) * e' = 1) (hq : l*q+n = m*q+k)
  (e : Line a b l n p q u) (f : Line a b m k r q v)
  (hs : (l - m) * s = l*m - q - r - u) (hw : w = s*s - r - u) :
  (Line a b s ((m*r+k) - s*r) r u w ∧ s*u + ((m*r+k) - s*r) = -(l*u+n)) ∧
  Line a b (s+(l - m)) ((l*p+n) - (s+(l - m))*p) p v w ∧ (s+(l - m))*v + ((l*p+n) - (s+(l - m))*p) = -(m*v+k) ∧ (s+(l - m))*w + ((l*p+n) - (s+(l - m))*p) = s*w + ((m*r+k) - s*r) := by
  have hR := f.on1
  have hP := e.on1
  obtain ⟨e1,e2,e3⟩ := e
  obtain ⟨f1,f2,f3⟩ := f
  have e2' := e2x e2 f2
  have hv := subv f1
  have hp := sub3 e1
  have hn := subn hq
  have ha := suba f2
  rw [hv, hp, hn] at e2'
  refine ⟨⟨line_of (by rw [k2x]; exact hR) (by rw [hw, k1x]) ?_, ?_⟩, line_of (by rw [k2x]; exact hP) (by rw [hw, hv, hp]; exact h6x hs) ?_, ?_, ?_⟩
  · rw [ha, hw, hv]; exact canc hd0 (canc hd0 (h2x hs e2'))
  · rw [hn]; exact canc hd0 (h1x hs e2')
  · rw [ha, hw, hv, hp, hn]; exact canc hd0 (canc hd0 (h5x hs e2'))
  · rw [hv, hp, hn]; exact canc hd0 (h3x hs e2')
  · rw [hw, hp, hn]; exact canc hd0 (h4x hs e2')
def slope (iv : Fin N → Fin N) (a x1 y1 x2 y2 : Fin N) : Fin N := if x1 = x2 then (3*(x1*x1) + a)*iv (y1+y1) else (y2-y1)*iv (x2-x1)
def sum (iv : Fin N → Fin N) (a : Fin N) : Pt (Fin N) → Pt (Fin N) → Pt (Fin N)
  | .far, q => q
  | .aff x1 y1, .far => .aff x1 y1
  | .aff x1 y1, .aff x2 y2 =>
    if x1 = x2 ∧ y1 = -y2 then .far
    else .aff (slope iv a x1 y1 x2 y2 * slope iv a x1 y1 x2 y2 - x1 - x2) (slope iv a x1 y1 x2 y2 * (x1 - (slope iv a x1 y1 x2 y2 * slope iv a x1 y1 x2 y2 - x1 - x2)) - y1)
variable {iv : Fin N → Fin N}
structure Fit (iv : Fin N → Fin N) (a b : Fin N) : Prop where
  inv : ∀ x : Fin N, x ≠ 0 → x * iv x = 1
  two : (2 : Fin N) ≠ 0
  odd : ∀ x : Fin N, x*x*x + a*x + b ≠ 0
theorem zero_of {x y e : Fin N} (h : x * y = 0) (he : x * e = 1) : y = 0 := by grobner
theorem Fit.mul_zero {a b : Fin N} (H : Fit iv a b) {x y : Fin N} (h : x * y = 0) : x = 0 ∨ y = 0 := by
  by_cases hx : x = 0
  · exact Or.inl hx
  · exact Or.inr (zero_of h (H.inv x hx))
theorem y0x {x a b : Fin N} (h : (0 : Fin N)*0 = x*x*x+a*x+b) : x*x*x+a*x+b = 0 := by grobner
theorem two_x {y : Fin N} (h : y + y = 0) : 2 * y = 0 := by grobner
theorem Fit.y {a b : Fin N} (H : Fit iv a b) {x y : Fin N} (h : y*y = x*x*x+a*x+b) : y ≠ 0 := by
  rintro rfl
  exact H.odd x (y0x h)
theorem Fit.yy {a b : Fin N} (H : Fit iv a b) {x y : Fin N} (h : y*y = x*x*x+a*x+b) : y + y ≠ 0 := by
  intro h2
  rcases H.mul_zero (x := 2) (y := y) (two_x h2) with h3 | h3
  · exact H.two h3
  · exact H.y h h3
theorem sq_x {y1 y2 z : Fin N} (h1 : y1*y1 = z) (h2 : y2*y2 = z) : (y1 - y2) * (y1 + y2) = 0 := by grobner
theorem eq_of_sub {x y : Fin N} (h : x - y = 0) : x = y := by grobner
theorem sub_of_ne {x y : Fin N} (h : x ≠ y) : y - x ≠ 0 := fun h0 => h (eq_of_sub h0).symm
theorem neg_of_add {x y : Fin N} (h : x + y = 0) : x = -y := by grobner
theorem same_y {a b : Fin N} (H : Fit iv a b) {x y1 y2 : Fin N} (h1 : y1*y1 = x*x*x+a*x+b) (h2 : y2*y2 = x*x*x+a*x+b) (hn : ¬ (x = x ∧ y1 = -y2)) : y1 = y2 := by
  rcases H.mul_zero (sq_x h1 h2) with h | h
  · exact eq_of_sub h
  · exact absurd ⟨rfl, neg_of_add h⟩ hn
theorem tan_s {x y a i : Fin N} (h0 : (y+y) * i = 1) : (3*(x*x) + a) * i * (y+y) = 3*(x*x)+a := by grobner
theorem cho_s {x1 x2 y1 y2 i : Fin N} (h0 : (x2-x1) * i = 1) : (y2-y1) * i * (x2-x1) = y2-y1 := by grobner
theorem tan_l {x y a b s : Fin N} (h : y*y = x*x*x+a*x+b) (hs : s * (y+y) = 3*(x*x)+a) : x*x + x*(s*s - x - x) + x*(s*s - x - x) = a - 2*s*(y - s*x) := by grobner
theorem cho_l {x1 x2 y1 y2 a b s e : Fin N} (h1 : y1*y1 = x1*x1*x1+a*x1+b) (h2 : y2*y2 = x2*x2*x2+a*x2+b) (hs : s * (x2-x1) = y2-y1) : (x2-x1)*(x1*x2 + x1*(s*s - x1 - x2) + x2*(s*s - x1 - x2)) = (x2-x1)*(a - 2*s*(y1 - s*x1)) := by grobner
theorem cho_y {x1 x2 y1 y2 s : Fin N} (hs : s * (x2-x1) = y2-y1) : y2 = s*x2+(y1 - s*x1) := by grobner
theorem on_x {x y s : Fin N} : s*x + (y - s*x) = y := by grobner
theorem sum_x {x1 x2 s : Fin N} : x1 + x2 + (s*s - x1 - x2) = s*s := by grobner
theorem line_ex {a b : Fin N} (H : Fit iv a b) {x1 y1 x2 y2 : Fin N} (h1 : y1*y1 = x1*x1*x1 + a*x1 + b) (h2 : y2*y2 = x2*x2*x2 + a*x2 + b) (hn : ¬ (x1 = x2 ∧ y1 = -y2)) :
    ∃ s n x, Line a b s n x1 x2 x ∧ y1 = s*x1+n ∧ y2 = s*x2+n := by
  refine ⟨slope iv a x1 y1 x2 y2, y1 - slope iv a x1 y1 x2 y2 * x1, slope iv a x1 y1 x2 y2 * slope iv a x1 y1 x2 y2 - x1 - x2, ?_⟩
  by_cases hx : x1 = x2
  · subst hx
    obtain rfl := same_y H h1 h2 hn
    have hs : slope iv a x1 y1 x1 y1 * (y1 + y1) = 3*(x1*x1)+a := by
      unfold slope
      rw [if_pos rfl]
      exact tan_s (H.inv _ (H.yy h1))
    generalize slope iv a x1 y1 x1 y1 = s at hs ⊢
    exact ⟨line_of (by rw [on_x]; exact h1) sum_x (tan_l h1 hs), on_x.symm, on_x.symm⟩
  · have hi := H.inv _ (sub_of_ne hx)
    have hs : slope iv a x1 y1 x2 y2 * (x2 - x1) = y2 - y1 := by
      unfold slope
      rw [if_neg hx]
      exact cho_s hi
    generalize slope iv a x1 y1 x2 y2 = s at hs ⊢
    exact ⟨line_of (by rw [on_x]; exact h1) sum_x (canc hi (cho_l (e := 0) h1 h2 hs)), on_x.symm, cho_y hs⟩
theorem opp_x {l n x : Fin N} (h : l*x+n = -(l*x+n)) : (l*x+n) + (l*x+n) = 0 := by grobner
theorem tan_u {a b l n x x3 : Fin N} (e1 : x+x+x3 = l*l) (e2 : x*x+x*x3+x*x3 = a - 2*l*n) : ((l*x+n)+(l*x+n)) * l = 3*(x*x)+a := by grobner
theorem cho_u {l n x1 x2 : Fin N} : (x2 - x1) * l = (l*x2+n) - (l*x1+n) := by grobner
theorem iv_l {d e l z : Fin N} (h0 : d * e = 1) (h : d * l = z) : z * e = l := by grobner
theorem third_x {x1 x2 x3 l : Fin N} (e1 : x1+x2+x3 = l*l) : l*l - x1 - x2 = x3 := by grobner
theorem third_y {x1 x3 l n : Fin N} : l*(x1 - x3) - (l*x1+n) = -(l*x3+n) := by grobner
theorem sum_line {a b : Fin N} (H : Fit iv a b) {l n x1 x2 x3 : Fin N} (h : Line a b l n x1 x2 x3) :
    sum iv a (.aff x1 (l*x1+n)) (.aff x2 (l*x2+n)) = .aff x3 (-(l*x3+n)) := by
  have o1 := h.on1
  have hn : ¬ (x1 = x2 ∧ l*x1+n = -(l*x2+n)) := by
    rintro ⟨rfl, h2⟩
    exact H.yy o1 (opp_x h2)
  have hs : slope iv a x1 (l*x1+n) x2 (l*x2+n) = l := by
    unfold slope
    by_cases hx : x1 = x2
    · subst hx
      rw [if_pos rfl]
      exact iv_l (H.inv _ (H.yy o1)) (tan_u (b := b) h.1 h.2.1)
    · rw [if_neg hx]
      exact iv_l (H.inv _ (sub_of_ne hx)) cho_u
  simp only [sum]
  rw [if_neg hn, hs, third_x h.1, third_y]
theorem neg2 (y : Fin N) : - -y = y := by grobner
theorem on_neg {a b : Fin N} {p : Pt (Fin N)} (h : On a b p) : On a b (neg p) := by
  cases p
  · trivial
  · rename_i x y
    have : -y * -y = y * y := by grobner
    simp only [On, neg] at h ⊢
    rw [this]; exact h
theorem neg_neg (p : Pt (Fin N)) : neg (neg p) = p := by
  cases p
  · rfl
  · simp only [neg, neg2]
theorem sum_far (iv : Fin N → Fin N) (a : Fin N) (p : Pt (Fin N)) : sum iv a p .far = p := by cases p <;> rfl
theorem far_sum (iv : Fin N → Fin N) (a : Fin N) (p : Pt (Fin N)) : sum iv a .far p = p := by cases p <;> rfl
theorem sum_neg (iv : Fin N → Fin N) (a : Fin N) (p : Pt (Fin N)) : sum iv a p (neg p) = .far := by
  cases p
  · rfl
  · simp only [neg, sum]
    rw [if_pos (by rw [neg2]; trivial)]
theorem neg_sum (iv : Fin N → Fin N) (a : Fin N) (p : Pt (Fin N)) : sum iv a (neg p) p = .far := by
  have := sum_neg iv a (neg p)
  rwa [neg_neg] at this
theorem two_points {a b : Fin N} (H : Fit iv a b) {p q : Pt (Fin N)} (hp : On a b p) (hq : On a b q) :
    p = .far ∨ q = .far ∨ q = neg p ∨ ∃ l n x1 x2 x3, Line a b l n x1 x2 x3 ∧ p = .aff x1 (l*x1+n) ∧ q = .aff x2 (l*x2+n) ∧ sum iv a p q = .aff x3 (-(l*x3+n)) := by
  cases p with
  | far => exact Or.inl rfl
  | aff x1 y1 =>
    cases q with
    | far => exact Or.inr (Or.inl rfl)
    | aff x2 y2 =>
      by_cases h : x1 = x2 ∧ y1 = -y2
      · refine Or.inr (Or.inr (Or.inl ?_))
        obtain ⟨rfl, rfl⟩ := h
        exact (neg_neg _).symm
      · obtain ⟨s, n, x, hl, e1, e2⟩ := line_ex H hp hq h
        refine Or.inr (Or.inr (Or.inr ⟨s, n, x1, x2, x, hl, ?_, ?_, ?_⟩))
        · rw [← e1]
        · rw [← e2]
        · rw [e1, e2]; exact sum_line H hl
theorem sum_comm {a b : Fin N} (H : Fit iv a b) {p q : Pt (Fin N)} (hp : On a b p) (hq : On a b q) : sum iv a p q = sum iv a q p := by
  rcases two_points H hp hq with rfl | rfl | rfl | ⟨l, n, x1, x2, x3, hl, rfl, rfl, hs⟩
  · rw [sum_far, far_sum]
  · rw [sum_far, far_sum]
  · rw [sum_neg, neg_sum]
  · rw [hs, sum_line H hl.swap]
theorem negsq {y z : Fin N} (h : y * y = z) : -y * -y = z := by grobner
theorem on_sum {a b : Fin N} (H : Fit iv a b) {p q : Pt (Fin N)} (hp : On a b p) (hq : On a b q) : On a b (sum iv a p q) := by
  rcases two_points H hp hq with rfl | rfl | rfl | ⟨l, n, x1, x2, x3, hl, rfl, rfl, hs⟩
  · rwa [far_sum]
  · rwa [sum_far]
  · rw [sum_neg]; trivial
  · rw [hs]
    exact negsq hl.turn.on1
theorem opp1 (l n x : Fin N) : -l*x + -n = -(l*x+n) := by grobner
theorem sum_back {a b : Fin N} (H : Fit iv a b) {p q : Pt (Fin N)} (hp : On a b p) (hq : On a b q) : sum iv a (neg p) (sum iv a p q) = q := by
  rcases two_points H hp hq with rfl | rfl | rfl | ⟨l, n, x1, x2, x3, hl, rfl, rfl, hs⟩
  · rw [far_sum]; exact far_sum _ _ _
  · rw [sum_far, neg_sum]
  · rw [sum_neg, sum_far]
  · rw [hs]
    have h := sum_line H (hl.turn.swap.opp)
    rw [opp1, opp1, opp1, neg2] at h
    exact h
theorem same_n {l q n k : Fin N} (h : l*q+n = l*q+k) : n = k := by grobner
theorem same_z {x1 x2 u x3 v l n a : Fin N} (e1 : x1+x2+u = l*l) (f1 : x2+x3+v = l*l) (e2 : x1*x2+x1*u+x2*u = a - 2*l*n) (f2 : x2*x3+x2*v+x3*v = a - 2*l*n) : (x1 - x3) * (x1 - v) = 0 := by grobner
theorem same_u {x1 x2 u v l : Fin N} (e1 : x1+x2+u = l*l) (f1 : x2+x1+v = l*l) : u = v := by grobner
theorem same_v {x1 x2 u x3 l : Fin N} (e1 : x1+x2+u = l*l) (f1 : x2+x3+x1 = l*l) : u = x3 := by grobner
theorem mul_iv {d i z : Fin N} (h : d * i = 1) : d * (z * i) = z := by grobner
theorem sum_assoc {a b : Fin N} (H : Fit iv a b) {p q r : Pt (Fin N)} (hp : On a b p) (hq : On a b q) (hr : On a b r) :
    sum iv a (sum iv a p q) r = sum iv a p (sum iv a q r) := by
  rcases two_points H hp hq with rfl | rfl | rfl | ⟨l, n, x1, x2, u, hl, rfl, hq2, hs⟩
  · rw [far_sum, far_sum]
  · rw [sum_far, far_sum]
  · rw [sum_neg, far_sum]
    have := sum_back H (on_neg hp) hr
    rw [neg_neg] at this
    exact this.symm
  · rcases two_points H hq hr with rfl | rfl | rfl | ⟨m, k, q', x3, v, hm, hq3, rfl, ht⟩
    · cases hq2
    · rw [sum_far, sum_far]
    · rw [sum_neg, sum_far, sum_comm H hp hq]
      have h1 := sum_back H hq hp
      rw [sum_comm H (on_sum H hq hp) (on_neg hq), h1]
    · rw [hs, ht]
      rw [hq2] at hq3
      injection hq3 with h1 h2
      subst h1
      by_cases hd : l - m = 0
      · obtain rfl := eq_of_sub hd
        obtain rfl := same_n h2
        have hP := hl
        obtain ⟨e1, e2, e3⟩ := hl
        obtain ⟨f1, f2, f3⟩ := hm
        rcases H.mul_zero (same_z e1 f1 e2 f2) with hz | hz
        · obtain rfl := eq_of_sub hz
          obtain rfl := same_u e1 f1
          exact sum_comm H (p := .aff u (-(l*u+n))) (q := .aff x1 (l*x1+n)) (a := a) (b := b) (negsq hP.turn.on1) hP.on1
        · obtain rfl := eq_of_sub hz
          obtain rfl := same_v e1 f1
          have h1 := neg_sum iv a (.aff u (l*u+n))
          have h2 := sum_neg iv a (.aff x1 (l*x1+n))
          simp only [neg] at h1 h2
          rw [h1, h2]
      · have hi := H.inv _ hd
        have hs' := mul_iv (z := l*m - x2 - x3 - u) hi
        obtain ⟨⟨g1, g2⟩, g3, g4, g5⟩ := t2 hi h2 hl hm.swap hs' rfl
        have j1 := sum_line H g1.swap
        have j2 := sum_line H g3
        rw [g2, k2x] at j1
        rw [g4, g5, k2x] at j2
        rw [j1, j2]
end
end Go.Proofs.YtpggkfdijmnmiaaGreat.Curve
set_option linter.unusedVariables false
namespace Go.Proofs.YtpggkfdijmnmiaaGreat.Curve
def BB : Nat := 41058363725152142129326129780047268409114441015993725554835256314039467401291
def aP : Fin PP := -3
def bP : Fin PP := c BB
theorem two_ne : (2 : Fin PP) ≠ 0 := by intro h; have := congrArg Fin.val h; revert this; decide +kernel
structure Tri where
  o : Nat
  l : Nat
  q : Nat
deriving DecidableEq
def NB : Nat := 74733725485204106633371317169360305120971702399296588640698374994827630452660
theorem c_NB : c NB = -bP := by
  refine neg_x ?_
  unfold bP
  rw [← c_add]
  exact Fin.ext (by rw [val_c]; decide +kernel)
def mulT (u v : Tri) : Tri :=
  ⟨(u.o*v.o + NB*(u.l*v.q+u.q*v.l)) % PP, (u.o*v.l+u.l*v.o + 3*(u.l*v.q+u.q*v.l) + NB*(u.q*v.q)) % PP, (u.o*v.q+u.l*v.l+u.q*v.o + 3*(u.q*v.q)) % PP⟩
def ev (r : Fin PP) (t : Tri) : Fin PP := c t.o + c t.l * r + c t.q * (r * r)
theorem ev_x0 {r a b u0 u1 u2 v0 v1 v2 : Fin PP} (h : r*r*r + a*r + b = 0) (ha : a = -3) :
    (u0*v0 + -b*(u1*v2+u2*v1)) + (u0*v1+u1*v0 + 3*(u1*v2+u2*v1) + -b*(u2*v2)) * r + (u0*v2+u1*v1+u2*v0 + 3*(u2*v2)) * (r*r) = (u0+u1*r+u2*(r*r))*(v0+v1*r+v2*(r*r)) := by grobner
theorem ev_mul {r : Fin PP} (h : r*r*r + aP*r + bP = 0) (u v : Tri) : ev r (mulT u v) = ev r u * ev r v := by
  unfold ev mulT
  simp only [c_mod, c_add, c_mul, c_NB, c_three]
  exact ev_x0 h rfl
def powT : Nat → Nat → Tri
  | 0, _ => ⟨1, 0, 0⟩
  | f + 1, e => if e % 2 = 1 then mulT (mulT (powT f (e / 2)) (powT f (e / 2))) ⟨0, 1, 0⟩ else mulT (powT f (e / 2)) (powT f (e / 2))
theorem one_y {r o z : Fin PP} (hz : z = 0) : o + z * r + z * (r * r) = o := by grobner
theorem x_y {r o z : Fin PP} (hz : z = 0) (ho : o = 1) : z + o * r + z * (r * r) = r := by grobner
theorem ev_one (r : Fin PP) : ev r ⟨1, 0, 0⟩ = 1 := one_y (o := 1) rfl
theorem ev_x (r : Fin PP) : ev r ⟨0, 1, 0⟩ = r := x_y (z := 0) (o := 1) rfl rfl
theorem np_step (r : Fin PP) (n : Nat) : np r (n + 1) = np r n * r := rfl
theorem mul_one_x (x : Fin PP) : x * 1 = x := by grobner
theorem mul_ass_x (x y z : Fin PP) : x * (y * z) = x * y * z := by grobner
theorem np_add (r : Fin PP) (m n : Nat) : np r (m + n) = np r m * np r n := by
  induction n with
  | zero => exact (mul_one_x _).symm
  | succ n ih => rw [← Nat.add_assoc, np_step, ih, np_step, mul_ass_x]
theorem ev_pow {r : Fin PP} (h : r*r*r + aP*r + bP = 0) : ∀ f e, e < 2 ^ f → ev r (powT f e) = np r e := by
  intro f
  induction f with
  | zero =>
    intro e he
    obtain rfl : e = 0 := by omega
    exact ev_one r
  | succ f ih =>
    intro e he
    have h2 : e / 2 < 2 ^ f := by rw [Nat.pow_succ] at he; omega
    have hi := ih _ h2
    unfold powT
    by_cases ho : e % 2 = 1
    · rw [if_pos ho, ev_mul h, ev_mul h, hi, ev_x, ← np_add, ← np_step]
      congr 1; omega
    · rw [if_neg ho, ev_mul h, hi, ← np_add]
      congr 1; omega
theorem powT_PP : powT 256 PP = ⟨66434390973925144466073271287821796038003695194169110494110089305650096453661, 12402202686218762177567235911775779164004716598278868847786114277539554646092, 24678849118215552148312087830792888746041224110560601850711771001608500700145⟩ := by decide +kernel
theorem bez : mulT ⟨76626890310466861426869089647039036757962535851890885406097439786770458211455, 74462945259064871768191128030512052509059297803194871526163573358218695456204, 34768139465301476436978405170953382516735956999154666452188405812258086013549⟩ ⟨66434390973925144466073271287821796038003695194169110494110089305650096453661, 12402202686218762177567235911775779164004716598278868847786114277539554646091, 24678849118215552148312087830792888746041224110560601850711771001608500700145⟩ = ⟨1, 0, 0⟩ := by decide +kernel
theorem h2_x {r g0 g1 g2 : Fin PP} (h : g0 + (g1 + 1) * r + g2 * (r*r) = r) : g0 + g1 * r + g2 * (r*r) = 0 := by grobner
theorem mul_zero_x (x : Fin PP) : x * 0 = 0 := by grobner
theorem no_root (r : Fin PP) : r*r*r + aP*r + bP ≠ 0 := by
  intro h
  have h1 := ev_pow h 256 PP (by decide +kernel)
  rw [np_PP, powT_PP] at h1
  have h2 : ev r ⟨66434390973925144466073271287821796038003695194169110494110089305650096453661, 12402202686218762177567235911775779164004716598278868847786114277539554646091, 24678849118215552148312087830792888746041224110560601850711771001608500700145⟩ = 0 := by
    have h3 : (12402202686218762177567235911775779164004716598278868847786114277539554646092 : Nat) = 12402202686218762177567235911775779164004716598278868847786114277539554646091 + 1 := by decide +kernel
    rw [h3] at h1
    unfold ev at h1 ⊢
    simp only [c_add, c_one] at h1 ⊢
    exact h2_x h1
  have h4 := ev_mul h ⟨76626890310466861426869089647039036757962535851890885406097439786770458211455, 74462945259064871768191128030512052509059297803194871526163573358218695456204, 34768139465301476436978405170953382516735956999154666452188405812258086013549⟩ ⟨66434390973925144466073271287821796038003695194169110494110089305650096453661, 12402202686218762177567235911775779164004716598278868847786114277539554646091, 24678849118215552148312087830792888746041224110560601850711771001608500700145⟩
  rw [bez, ev_one, h2, mul_zero_x] at h4
  have := congrArg Fin.val h4
  revert this
  decide +kernel
theorem fit : Fit inv aP bP := ⟨mul_inv, two_ne, no_root⟩
end Go.Proofs.YtpggkfdijmnmiaaGreat.Curve
set_option linter.unusedVariables false
set_option linter.unusedSimpArgs false
set_option maxRecDepth 100000
namespace Go.Proofs.YtpggkfdijmnmiaaGreat
open Curve
theorem mPP : mP = PP := rfl
theorem c_mj (a b : Nat) : c (mj a b) = c a * c b := by unfold mj; rw [mPP, c_mod, c_mul]
theorem c_aj (a b : Nat) : c (aj a b) = c a + c b := by unfold aj; rw [mPP, c_mod, c_add]
theorem sub_x (x y : Fin PP) : x + -y = x - y := by grobner
theorem c_sj (a b : Nat) : c (sj a b) = c a - c b := by unfold sj; rw [mPP, c_mod, c_add, c_opp, sub_x]
theorem three_x (x : Fin PP) : x + x + x = 3 * x := by grobner
theorem c_tj (a : Nat) : c (tj a) = 3 * c a := by unfold tj; rw [c_aj, c_aj, three_x]
theorem c_iN (z : Nat) : c (iN z) = inv (c z) := by
  unfold iN inv
  rw [mPP]
  apply c_eq.2
  rw [val_c, Nat.mod_mod, Nat.mod_mod, ← Nat.pow_mod]
theorem c_inj {a b : Nat} (ha : a < mP) (hb : b < mP) (h : c a = c b) : a = b := by
  have := c_eq.1 h
  rwa [← mPP, Nat.mod_eq_of_lt ha, Nat.mod_eq_of_lt hb] at this
theorem mj_p (a b : Nat) : mj a b < mP := Nat.mod_lt _ (by decide +kernel)
theorem aj_p (a b : Nat) : aj a b < mP := Nat.mod_lt _ (by decide +kernel)
theorem sj_p (a b : Nat) : sj a b < mP := Nat.mod_lt _ (by decide +kernel)
def J.lt (p : J) : Prop := p.x < mP ∧ p.y < mP ∧ p.z < mP
theorem J.lt.ok {p : J} (h : p.lt) : p.ok := ⟨Nat.lt_trans h.1 (by decide +kernel), Nat.lt_trans h.2.1 (by decide +kernel), Nat.lt_trans h.2.2 (by decide +kernel)⟩
theorem J.over_p (p : J) (f : Nat) : (p.over f).lt := ⟨mj_p _ _, mj_p _ _, mj_p _ _⟩
theorem J.along_p (p : J) (r o : Nat) (h : p.z < mP) : (p.along r o).lt := ⟨sj_p _ _, sj_p _ _, h⟩
def Near (p : J) (i X Y : Fin PP) : Prop := p.lt ∧ c p.z * i = 1 ∧ X = c p.x * (i * i) ∧ Y = c p.y * (i * i * i)
def Rep (p : J) (P : Pt (Fin PP)) : Prop := (p = J.far ∧ P = .far) ∨ ∃ i X Y, Near p i X Y ∧ P = .aff X Y
theorem one_ne : (1 : Fin PP) ≠ 0 := by intro h; have := congrArg Fin.val h; revert this; decide +kernel
theorem zero_mul_x (x : Fin PP) : 0 * x = 0 := by grobner
theorem Near.ne {p : J} {i X Y : Fin PP} (h : Near p i X Y) : p ≠ J.far := by
  rintro rfl
  have := h.2.1
  rw [show c J.far.z = 0 from rfl, zero_mul_x] at this
  exact one_ne this.symm
theorem over_z {z f i j : Fin PP} (h : z * i = 1) (hf : f * j = 1) : z * f * (i * j) = 1 := by grobner
theorem over_xx {x i f j : Fin PP} (hf : f * j = 1) : x * (f * f) * (i * j * (i * j)) = x * (i * i) := by grobner
theorem over_yy {y i f j : Fin PP} (hf : f * j = 1) : y * (f * f * f) * (i * j * (i * j) * (i * j)) = y * (i * i * i) := by grobner
theorem Near.over {p : J} {i X Y j : Fin PP} {f : Nat} (h : Near p i X Y) (hf : c f * j = 1) : Near (p.over f) (i * j) X Y := by
  obtain ⟨_, hz, hx, hy⟩ := h
  refine ⟨J.over_p _ _, ?_, ?_, ?_⟩
  · show c (mj p.z f) * (i * j) = 1
    rw [c_mj]; exact over_z hz hf
  · show X = c (mj p.x (mj f f)) * (i * j * (i * j))
    rw [c_mj, c_mj, over_xx hf]; exact hx
  · show Y = c (mj p.y (mj (mj f f) f)) * (i * j * (i * j) * (i * j))
    rw [c_mj, c_mj, c_mj, over_yy hf]; exact hy
theorem al_x {r x o i s X O : Fin PP} (hs : s = r * i) (hX : X = x * (i * i)) (hO : O = o * (i * i)) : (r * r - x - o) * (i * i) = s * s - X - O := by grobner
theorem al_y {r x y z i s X Y W : Fin PP} (hs : s = r * i) (hX : X = x * (i * i)) (hY : Y = y * (i * i * i)) (hW : W = z * (i * i)) : (r * (x - z) - y) * (i * i * i) = s * (X - W) - Y := by grobner
theorem Near.along {p : J} {i X Y s O : Fin PP} {r o : Nat} (h : Near p i X Y) (hs : s = c r * i) (hO : O = c o * (i * i)) :
    Near (p.along r o) i (s * s - X - O) (s * (X - (s * s - X - O)) - Y) := by
  obtain ⟨hp, hz, hx, hy⟩ := h
  refine ⟨J.along_p _ _ _ hp.2.2, hz, ?_, ?_⟩
  · show s * s - X - O = c (sj (sj (mj r r) p.x) o) * (i * i)
    rw [c_sj, c_sj, c_mj]
    exact (al_x hs hx hO).symm
  · show s * (X - (s * s - X - O)) - Y = c (sj (mj r (sj p.x (sj (sj (mj r r) p.x) o))) p.y) * (i * i * i)
    rw [c_sj, c_mj, c_sj, c_sj, c_sj, c_mj]
    exact (al_y hs hx hy (al_x hs hx hO).symm).symm
theorem dbl_s {x y z i j : Fin PP} (hz : z * i = 1) (hj : (y + y) * j = 1) : (y * (i * i * i) + y * (i * i * i)) * (3 * ((x - z * z) * (x + z * z)) * (i * j)) = 3 * (x * (i * i) * (x * (i * i))) + -3 := by grobner
theorem dbl_n {y i z : Fin PP} (hz : z * i = 1) (h : y + y = 0) : y * (i * i * i) + y * (i * i * i) = 0 := by grobner
theorem opp_z {y : Fin PP} (h : y = -y) : y + y = 0 := by grobner
theorem right_x {x a b : Fin PP} (ha : a = -3) : x * x * x - 3 * x + b = x * x * x + a * x + b := by grobner
theorem one_one : (1 : Fin PP) * 1 = 1 := by decide +kernel
theorem one_x2 {x : Fin PP} : x = x * (1 * 1) := by grobner
theorem one_x3 {x : Fin PP} : x = x * (1 * 1 * 1) := by grobner
theorem sl_x {d e s t : Fin PP} (h : d * e = 1) (hs : d * s = t) : t * e = s := by grobner
theorem Rep.twice {p : J} {P : Pt (Fin PP)} (h : Rep p P) (hP : On aP bP P) : Rep p.twice (sum inv aP P P) := by
  rcases h with ⟨rfl, rfl⟩ | ⟨i, X, Y, h, rfl⟩
  · rw [J.twice_far rfl]; exact Or.inl ⟨rfl, rfl⟩
  · have hyy := fit.yy hP
    rw [J.twice_not h.ne]
    have hz := h.2.1
    have hf : c p.y + c p.y ≠ 0 := fun h0 => hyy (by rw [h.2.2.2]; exact dbl_n hz h0)
    have hj := mul_inv _ hf
    have ho := h.over (f := aj p.y p.y) (j := inv (c p.y + c p.y)) (by rw [c_aj]; exact hj)
    have ha := ho.along (r := tj (mj (sj p.x (mj p.z p.z)) (aj p.x (mj p.z p.z)))) (o := (p.over (aj p.y p.y)).x) rfl rfl
    have hO : c (p.over (aj p.y p.y)).x * (i * inv (c p.y + c p.y) * (i * inv (c p.y + c p.y))) = X := ho.2.2.1.symm
    rw [hO] at ha
    have hs : c (tj (mj (sj p.x (mj p.z p.z)) (aj p.x (mj p.z p.z)))) * (i * inv (c p.y + c p.y)) = slope inv aP X Y X Y := by
      rw [c_tj, c_mj, c_sj, c_aj, c_mj]
      unfold slope
      rw [if_pos rfl]
      refine (sl_x (mul_inv _ hyy) ?_).symm
      rw [h.2.2.1, h.2.2.2]
      exact dbl_s hz hj
    rw [hs] at ha
    refine Or.inr ⟨_, _, _, ha, ?_⟩
    simp only [sum]
    rw [if_neg (fun hc => hyy (opp_z hc.2))]
theorem co_x {x x' k z : Fin PP} (hz : z * k = 1) (h : x * (k * k) = x' * (k * k)) : x = x' := by grobner
theorem co_y {y y' k z : Fin PP} (hz : z * k = 1) (h : y * (k * k * k) = y' * (k * k * k)) : y = y' := by grobner
theorem ch_s {x x' y y' k n : Fin PP} (hn : (x' - x) * n = 1) : (x' * (k * k) - x * (k * k)) * ((y' - y) * (k * n)) = y' * (k * k * k) - y * (k * k * k) := by grobner
theorem ch_o {x' k n d : Fin PP} (hn : d * n = 1) : x' * (d * d) * (k * n * (k * n)) = x' * (k * k) := by grobner
theorem com_x (x y : Fin PP) : x * y = y * x := by grobner
theorem Rep.plus {p q : J} {P Q : Pt (Fin PP)} (h : Rep p P) (k : Rep q Q) (hP : On aP bP P) (hQ : On aP bP Q) : Rep (p.plus q) (sum inv aP P Q) := by
  rcases h with ⟨rfl, rfl⟩ | ⟨i, X, Y, h, rfl⟩
  · rw [J.plus_1 rfl, far_sum]; exact k
  rcases k with ⟨rfl, rfl⟩ | ⟨j, U, V, k, rfl⟩
  · rw [J.plus_2 h.ne rfl, sum_far]; exact Or.inr ⟨i, X, Y, h, rfl⟩
  have h' := h.over k.2.1
  have k' := k.over h.2.1
  rw [com_x j i] at k'
  have ez : (p.over q.z).z = (q.over p.z).z := by show mj p.z q.z = mj q.z p.z; unfold mj; rw [Nat.mul_comm]
  have hz := h'.2.1
  by_cases h3 : p.over q.z = q.over p.z
  · rw [J.plus_3 h.ne k.ne h3]
    have e1 : U = X := by rw [h'.2.2.1, k'.2.2.1, h3]
    have e2 : V = Y := by rw [h'.2.2.2, k'.2.2.2, h3]
    rw [e1, e2]
    exact Rep.twice (Or.inr ⟨_, _, _, h', rfl⟩) hP
  by_cases h4 : (p.over q.z).x = (q.over p.z).x
  · rw [J.plus_4 h.ne k.ne h3 h4]
    refine Or.inl ⟨rfl, ?_⟩
    have e1 : X = U := by rw [h'.2.2.1, k'.2.2.1, h4]
    have e2 : Y ≠ V := by
      intro e2
      rw [h'.2.2.2, k'.2.2.2] at e2
      have e3 := c_inj (J.over_p p q.z).2.1 (J.over_p q p.z).2.1 (co_y hz e2)
      apply h3
      generalize p.over q.z = a at *
      generalize q.over p.z = b at *
      obtain ⟨a1, a2, a3⟩ := a
      obtain ⟨b1, b2, b3⟩ := b
      simp only [] at h4 e3 ez
      rw [h4, e3, ez]
    subst e1
    simp only [sum]
    refine if_pos ⟨trivial, ?_⟩
    rcases fit.mul_zero (sq_x hP hQ) with h5 | h5
    · exact absurd (eq_of_sub h5) e2
    · exact neg_of_add h5
  · rw [J.plus_5 h.ne k.ne h3 h4]
    have hXU : X ≠ U := by
      intro e
      rw [h'.2.2.1, k'.2.2.1] at e
      exact h4 (c_inj (J.over_p p q.z).1 (J.over_p q p.z).1 (co_x hz e))
    have hd : c (q.over p.z).x - c (p.over q.z).x ≠ 0 := fun h0 => h4 (c_inj (J.over_p p q.z).1 (J.over_p q p.z).1 (eq_of_sub h0).symm)
    have hn := mul_inv _ hd
    have ho := h'.over (f := sj (q.over p.z).x (p.over q.z).x) (j := inv (c (q.over p.z).x - c (p.over q.z).x)) (by rw [c_sj]; exact hn)
    have ha := ho.along (r := sj (q.over p.z).y (p.over q.z).y) (o := mj (q.over p.z).x (mj (sj (q.over p.z).x (p.over q.z).x) (sj (q.over p.z).x (p.over q.z).x))) rfl rfl
    have hO : c (mj (q.over p.z).x (mj (sj (q.over p.z).x (p.over q.z).x) (sj (q.over p.z).x (p.over q.z).x))) * (i * j * inv (c (q.over p.z).x - c (p.over q.z).x) * (i * j * inv (c (q.over p.z).x - c (p.over q.z).x))) = U := by
      rw [c_mj, c_mj, c_sj, ch_o hn]; exact k'.2.2.1.symm
    have hs : c (sj (q.over p.z).y (p.over q.z).y) * (i * j * inv (c (q.over p.z).x - c (p.over q.z).x)) = slope inv aP X Y U V := by
      rw [c_sj]
      unfold slope
      rw [if_neg hXU]
      refine (sl_x (mul_inv _ (sub_of_ne hXU)) ?_).symm
      rw [h'.2.2.1, h'.2.2.2, k'.2.2.1, k'.2.2.2]
      exact ch_s hn
    rw [hO, hs] at ha
    refine Or.inr ⟨_, _, _, ha, ?_⟩
    simp only [sum]
    rw [if_neg (fun hc => hXU hc.1)]
def toPt (p : Po) : Pt (Fin PP) := if p.i = true then .far else .aff (c p.x) (c p.y)
def ofPt : Pt (Fin PP) → Po
  | .far => ⟨0, 0, true⟩
  | .aff x y => ⟨x.val, y.val, false⟩
theorem val_of {n : Nat} {x : Fin PP} (hn : n < mP) (h : x = c n) : n = x.val := by
  rw [h, val_c, Nat.mod_eq_of_lt (show n < PP from hn)]
theorem end_x {x i j z : Fin PP} (h1 : z * i = 1) (h2 : z * j = 1) : x * (j * j) = x * (i * i) := by grobner
theorem end_y {y i j z : Fin PP} (h1 : z * i = 1) (h2 : z * j = 1) : y * (j * j * j) = y * (i * i * i) := by grobner
theorem ne_of_inv {z i : Fin PP} (h : z * i = 1) : z ≠ 0 := by
  rintro rfl
  rw [zero_mul_x] at h
  exact one_ne h.symm
theorem Rep.point {p : J} {P : Pt (Fin PP)} (h : Rep p P) : p.point = ofPt P := by
  rcases h with ⟨rfl, rfl⟩ | ⟨i, X, Y, h, rfl⟩
  · exact J.point_far rfl
  · rw [J.point_not h.ne]
    have hj := mul_inv _ (ne_of_inv h.2.1)
    have e1 : X = c (p.over (iN p.z)).x := by
      show X = c (mj p.x (mj (iN p.z) (iN p.z)))
      rw [c_mj, c_mj, c_iN, h.2.2.1, end_x h.2.1 hj]
    have e2 : Y = c (p.over (iN p.z)).y := by
      show Y = c (mj p.y (mj (mj (iN p.z) (iN p.z)) (iN p.z)))
      rw [c_mj, c_mj, c_mj, c_iN, h.2.2.2, end_y h.2.1 hj]
    rw [val_of (J.over_p p (iN p.z)).1 e1, val_of (J.over_p p (iN p.z)).2.1 e2]
    rfl
theorem c_BN : c BN = bP := rfl
theorem c_right (x : Nat) : c (rightN x) = c x * c x * c x + aP * c x + bP := by
  unfold rightN
  rw [c_aj, c_sj, c_mj, c_mj, c_tj, c_BN]
  exact right_x rfl
theorem on_iff {p : Po} : p.on = true → On aP bP (toPt p) ∧ ofPt (toPt p) = p ∧ Rep (J.begin p.x p.y p.i) (toPt p) := by
  intro h
  obtain ⟨x, y, i⟩ := p
  cases i
  · obtain ⟨hx, hy⟩ := on_lt h
    have e : (Po.mk x y false).on = decide (x < mP ∧ y < mP ∧ mj y y = rightN x) := rfl
    rw [e] at h
    have h3 := (of_decide_eq_true h).2.2
    have h4 := congrArg c h3
    rw [c_mj, c_right] at h4
    refine ⟨h4, ?_, Or.inr ⟨1, c x, c y, ⟨⟨hx, hy, by show 1 < mP; decide +kernel⟩, one_one, one_x2, one_x3⟩, rfl⟩⟩
    show Po.mk (c x).val (c y).val false = _
    rw [val_c, val_c, ← mPP, Nat.mod_eq_of_lt hx, Nat.mod_eq_of_lt hy]
  · obtain ⟨rfl, rfl⟩ := on_far h
    exact ⟨trivial, rfl, Or.inl ⟨rfl, rfl⟩⟩
theorem on_ofPt {P : Pt (Fin PP)} (h : On aP bP P) : (ofPt P).on = true ∧ toPt (ofPt P) = P ∧ (ofPt P).ok := by
  cases P with
  | far => exact ⟨by decide, rfl, by decide, by decide⟩
  | aff x y =>
    have hx := x.isLt
    have hy := y.isLt
    refine ⟨?_, ?_, Nat.lt_trans hx (by decide +kernel), Nat.lt_trans hy (by decide +kernel)⟩
    · have e : (Po.mk x.val y.val false).on = decide (x.val < mP ∧ y.val < mP ∧ mj y.val y.val = rightN x.val) := rfl
      show (Po.mk x.val y.val false).on = true
      rw [e]
      refine decide_eq_true ⟨hx, hy, c_inj (mj_p _ _) (aj_p _ _) ?_⟩
      rw [c_mj]
      show _ = c (rightN x.val)
      rw [c_right, c_val, c_val]
      exact h
    · show Pt.aff (c x.val) (c y.val) = _
      rw [c_val, c_val]
theorem add_is {p q : Po} (hp : p.on = true) (hq : q.on = true) : p.add q = ofPt (sum inv aP (toPt p) (toPt q)) := by
  obtain ⟨o1, _, r1⟩ := on_iff hp
  obtain ⟨o2, _, r2⟩ := on_iff hq
  exact (r1.plus r2 o1 o2).point
def mul (P : Pt (Fin PP)) : Nat → Pt (Fin PP)
  | 0 => .far
  | n + 1 => sum inv aP (mul P n) P
theorem mul_zero_p (P : Pt (Fin PP)) : mul P 0 = .far := rfl
theorem mul_succ_p (P : Pt (Fin PP)) (n : Nat) : mul P (n + 1) = sum inv aP (mul P n) P := rfl
theorem on_far_p : On aP bP .far := trivial
theorem mul_on {P : Pt (Fin PP)} (h : On aP bP P) (n : Nat) : On aP bP (mul P n) := by
  induction n with
  | zero => exact on_far_p
  | succ n ih => exact on_sum fit ih h
theorem mul_add {P : Pt (Fin PP)} (h : On aP bP P) (m n : Nat) : mul P (m + n) = sum inv aP (mul P m) (mul P n) := by
  induction n with
  | zero => rw [mul_zero_p, sum_far]; rfl
  | succ n ih => rw [← Nat.add_assoc, mul_succ_p, ih, mul_succ_p, sum_assoc fit (mul_on h m) (mul_on h n) h]
theorem mul_mul {P : Pt (Fin PP)} (h : On aP bP P) (m n : Nat) : mul (mul P n) m = mul P (m * n) := by
  induction m with
  | zero => rw [Nat.zero_mul]; rfl
  | succ m ih => rw [mul_succ_p, ih, Nat.succ_mul, mul_add h]
theorem mul_one_p {P : Pt (Fin PP)} : mul P 1 = P := far_sum _ _ _
theorem mul_two {P : Pt (Fin PP)} (h : On aP bP P) (n : Nat) : sum inv aP (mul P n) (mul P n) = mul P (2 * n) := by
  rw [← mul_add h, Nat.two_mul]
end Go.Proofs.YtpggkfdijmnmiaaGreat
namespace Go.Proofs.YtpggkfdijmnmiaaGreat
open Go.RowKit Go.Sort Limbs Curve
def Po.mul (k : Nat) (p : Po) : Po := ((J.begin p.x p.y p.i).mulN k 64).point
set_option maxHeartbeats 8000000 in
theorem mul_p (k : Nat) (p : Po) (hk : k < W256) (hp : p.ok) (w : World) :
    Calls Tryz.prog 93 #[nv k, p.v] w fun e w' => e = .returned (if p.on = true then .tuple #[(Po.mul k p).v, .int .i64 0] else .tuple #[Po.zero.v, .int .i64 70]) ∧ Below w.heap.size w w' := by
  have HOP := Lib.hid (onj hp)
  have hj := J.begin_ok (i := p.i) hp.1 hp.2
  have H1 := Lib.hid (fun w => begin_c p.x p.y p.i w)
  have H2 := Lib.hid (fun w => adders_c (J.begin p.x p.y p.i) hj w)
  have H3 := Lib.hid (fun w => multiple_c k (J.begin p.x p.y p.i) hk hj w)
  have H4 := Lib.hid (pointj (J.mulN_ok (k := k) hj 64))
  unfold Po.mul
  clear hp hk hj
  generalize ((J.begin p.x p.y p.i).mulN k 64).point = res at *
  generalize (J.begin p.x p.y p.i).mulN k 64 = pq at *
  generalize J.begin p.x p.y p.i = jp at *
  cases honp : p.on
  · rw [if_neg (by simp)]
    rw [honp] at HOP
    clear honp H1 H2 H3 H4
    obtain ⟨x, y, i⟩ := p
    simp only [Po.v, pn, nv, num] at HOP ⊢
    go_enter Tryz.func93, Tryz.ntmps93
    go_wp2_with fail
    refine (keep w.heap.size w (HOP.out _) (by go_grown) (Nat.le_refl _)).mono ?_
    rintro e w1 ⟨rfl, hb, hk⟩
    have KZ : Hid (Bk 26 w1 (w.heap.size + 1 + 1) #[.int .u64 0, .int .u64 0, .int .u64 0, .int .u64 0, .int .u64 0, .int .u64 0, .int .u64 0, .int .u64 0, .bool false]) := Lib.hid (Bk.below (Bk.new (by simp)) hk)
    have HB := Lib.hid hb
    clear hk hb HOP
    obtain ⟨⟨f0, f1, f2, f3⟩, ⟨f4, f5, f6, f7⟩, f8⟩ := KZ.out.fros9
    obtain ⟨⟨c0, c1, c2, c3⟩, ⟨c4, c5, c6, c7⟩, c8⟩ := KZ.out.cells9
    go_wp2_with fail
    refine ret_cell51e rfl (w.heap.size + 1 + 1) 0 0 false (.int .i64 70) rfl rfl (Bk.put9 KZ.out) rfl ⟨rfl, ?_⟩
    have hb := HB.out
    go_grown
  rw [if_pos rfl]
  rw [honp] at HOP
  clear honp
  obtain ⟨x, y, i⟩ := p
  obtain ⟨rx, ry, ri⟩ := res
  generalize hf : fv jp = F at *
  have HF : Hid (∃ cs, F = .agg cs) := Lib.hid ⟨_, hf.symm⟩
  clear hf
  obtain ⟨px, py, pz⟩ := jp
  obtain ⟨sx, sy, sz⟩ := pq
  simp only [Po.v, pn, J.v, jn, nv, num] at HOP H1 H2 H3 H4 ⊢
  go_enter Tryz.func93, Tryz.ntmps93
  go_wp2_with fail
  refine (keep w.heap.size w (HOP.out _) (by go_grown) (Nat.le_refl _)).mono ?_
  rintro e w1 ⟨rfl, hb, hk⟩
  have KK : Hid (Bk 24 w1 w.heap.size #[.int .u64 (lb k 0 : Nat), .int .u64 (lb k 1 : Nat), .int .u64 (lb k 2 : Nat), .int .u64 (lb k 3 : Nat)]) := Lib.hid (Bk.below (Bk.alloc (Bk.alloc (Bk.new rfl))) hk)
  have KP : Hid (Bk 26 w1 (w.heap.size + 1) #[.int .u64 (lb x 0 : Nat), .int .u64 (lb x 1 : Nat), .int .u64 (lb x 2 : Nat), .int .u64 (lb x 3 : Nat), .int .u64 (lb y 0 : Nat), .int .u64 (lb y 1 : Nat), .int .u64 (lb y 2 : Nat), .int .u64 (lb y 3 : Nat), .bool i]) := Lib.hid (Bk.below (Bk.alloc (Bk.new (by simp))) hk)
  have KZ : Hid (Bk 26 w1 (w.heap.size + 1 + 1) #[.int .u64 0, .int .u64 0, .int .u64 0, .int .u64 0, .int .u64 0, .int .u64 0, .int .u64 0, .int .u64 0, .bool false]) := Lib.hid (Bk.below (Bk.new (by simp)) hk)
  have HB := Lib.hid hb
  clear hk hb HOP
  go_wp2_with fail
  obtain ⟨⟨x0, x1, x2, x3⟩, ⟨y0, y1, y2, y3⟩, i0⟩ := KP.out.reg9
  obtain ⟨k0, k1, k2, k3⟩ := KK.out.reg
  refine wp_region_below_tail 6 mixed (by kernel_rfl) ?_
  simp only [List.take_succ_cons, List.take_zero, List.drop_succ_cons, List.drop_zero]
  iterate 2 go_big_quiet_step (fail)
  go_big_quiet_step (exact qg H1.out)
  go_big_quiet_step (exact qg H2.out)
  go_big_quiet_step (exact qg H3.out)
  go_big_quiet_step (exact qg H4.out)
  refine wpQuiet_nil ?_
  intro _ hw'
  obtain ⟨⟨dq, osq⟩, hw''⟩ := hw'
  subst hw''
  have KZ3 := Lib.hid (KZ.out.regrown dq osq)
  have HB3 := Lib.hid (HB.out.trans ((below_regrown w1 dq osq).mono HB.out.size))
  clear KK KP KZ HB x0 x1 x2 x3 y0 y1 y2 y3 i0 k0 k1 k2 k3 H1 H2 H3 H4
  generalize grow (redrawn w1 dq) osq = V at KZ3 HB3 ⊢
  obtain ⟨⟨f0, f1, f2, f3⟩, ⟨f4, f5, f6, f7⟩, f8⟩ := KZ3.out.fros9
  obtain ⟨⟨c0, c1, c2, c3⟩, ⟨c4, c5, c6, c7⟩, c8⟩ := KZ3.out.cells9
  go_wp2_with fail
  refine ret_cell51e rfl (w.heap.size + 1 + 1) rx ry ri (.int .i64 0) rfl rfl (Bk.put9 KZ3.out) rfl ⟨rfl, ?_⟩
  have hb := HB3.out
  go_grown
theorem mulp {k : Nat} {p : Po} (hk : k < W256) (hp : p.ok) : ∀ w, Calls Tryz.prog 93 #[nv k, p.v] w fun e w' => e = .returned (if p.on = true then .tuple #[(Po.mul k p).v, .int .i64 0] else .tuple #[Po.zero.v, .int .i64 70]) ∧ Below w.heap.size w w' := mul_p k p hk hp
theorem Rep.tim {p : J} {P : Pt (Fin PP)} (h : Rep p P) (hP : On aP bP P) : ∀ n, Rep (p.tim n) (mul P n)
  | 0 => Or.inl ⟨rfl, rfl⟩
  | n + 1 => (Rep.tim h hP n).plus h (mul_on hP n) hP
theorem Rep.four {q : J} {P : Pt (Fin PP)} (hP : On aP bP P) {n : Nat} (h : Rep q (mul P n)) : Rep q.twice.twice.twice.twice (mul P (16 * n)) := by
  have h1 := h.twice (mul_on hP n)
  rw [mul_two hP] at h1
  have h2 := h1.twice (mul_on hP _)
  rw [mul_two hP] at h2
  have h3 := h2.twice (mul_on hP _)
  rw [mul_two hP] at h3
  have h4 := h3.twice (mul_on hP _)
  rw [mul_two hP] at h4
  rw [show 16 * n = 2 * (2 * (2 * (2 * n))) by omega]
  exact h4
theorem Rep.mulN {p : J} {P : Pt (Fin PP)} (h : Rep p P) (hP : On aP bP P) {k : Nat} (hk : k < W256) : ∀ i, i ≤ 64 → Rep (p.mulN k i) (mul P (k / 16 ^ (64 - i)))
  | 0, _ => by
    have : k / 16 ^ (64 - 0) = 0 := Nat.div_eq_of_lt (by unfold W256 at hk; simpa using hk)
    rw [this]
    exact Or.inl ⟨rfl, rfl⟩
  | i + 1, hi => by
    have ih := Rep.four hP (Rep.mulN h hP hk i (by omega))
    have := (Rep.tim h hP (dg k i)).plus ih (mul_on hP _) (mul_on hP _)
    rw [← mul_add hP] at this
    have e : dg k i + 16 * (k / 16 ^ (64 - i)) = k / 16 ^ (64 - (i + 1)) := by
      unfold dg
      rw [show 64 - i = 63 - i + 1 by omega, show 64 - (i + 1) = 63 - i by omega, Nat.pow_succ, ← Nat.div_div_eq_div_mul]
      omega
    rw [e] at this
    exact this
theorem mul_is {k : Nat} {p : Po} (hk : k < W256) (hp : p.on = true) : Po.mul k p = ofPt (mul (toPt p) k) := by
  obtain ⟨o1, _, r1⟩ := on_iff hp
  have := (Rep.mulN r1 o1 hk 64 (Nat.le_refl _)).point
  rw [Nat.sub_self, Nat.pow_zero, Nat.div_one] at this
  exact this
end Go.Proofs.YtpggkfdijmnmiaaGreat
set_option linter.unusedVariables false
set_option linter.unusedSimpArgs false
set_option maxRecDepth 100000
namespace Go.Proofs.YtpggkfdijmnmiaaGreat
open Go.RowKit Go.Sort Limbs Curve
theorem onP {p : Po} (hp : p.on = true) (ok : p.ok) : ∀ w, Calls Tryz.prog 61 #[p.v] w fun e w' => e = .returned (.bool true) ∧ Below w.heap.size w w' := fun w => by
  have h := onj ok w
  rw [hp] at h
  exact h
theorem addP {p q : Po} (hp : p.on = true) (okp : p.ok) (hq : q.on = true) (okq : q.ok) : ∀ w, Calls Tryz.prog 114 #[p.v, q.v] w fun e w' => e = .returned (.tuple #[(p.add q).v, .int .i64 0]) ∧ Below w.heap.size w w' := fun w => by
  have h := addp okp okq w
  rw [if_pos ⟨hp, hq⟩] at h
  exact h
theorem mulP {k : Nat} {p : Po} (hk : k < W256) (hp : p.on = true) (okp : p.ok) : ∀ w, Calls Tryz.prog 93 #[nv k, p.v] w fun e w' => e = .returned (.tuple #[(Po.mul k p).v, .int .i64 0]) ∧ Below w.heap.size w w' := fun w => by
  have h := mulp hk okp w
  rw [if_pos hp] at h
  exact h
end Go.Proofs.YtpggkfdijmnmiaaGreat
namespace Go.Proofs.YtpggkfdijmnmiaaGreat.Pl
open Go.RowKit Go.Sort Limbs
noncomputable def tBO : Array Oper := (Tryz.f42.body.bind fun c => findR c 1).getD #[]
def tB_m : List (List Nat) := [[], [], [1], [1, 2], [1, 2], [1, 2], [], [1, 2, 6], [1, 2, 6, 7]]
set_option maxHeartbeats 16000000 in
theorem tB (PW : Bool → Bool → Bool → Bool → Value → World → Prop) (gk k x y : Nat) (i : Bool) (w : World)  (cl1 : ∀ (b6 : Bool) (y6 : Value) (w : World), PW false false b6 false y6 w → Calls Tryz.prog 48 #[] w fun e w1 => e = .returned (.agg #[.int .u64 17627433388654248598, .int .u64 8575836109218198432, .int .u64 17923454489921339634, .int .u64 7716867327612699207, .int .u64 14678990851816772085, .int .u64 3156516839386865358, .int .u64 10297457778147434006, .int .u64 5756518291402817435, .bool false]) ∧ PW true false b6 false y6 w1) (cl2 : ∀ (b6 : Bool) (y6 : Value) (w : World), PW true false b6 false y6 w → Calls Tryz.prog 93 #[.agg #[.int .u64 (lb k 0 : Nat), .int .u64 (lb k 1 : Nat), .int .u64 (lb k 2 : Nat), .int .u64 (lb k 3 : Nat)], .agg #[.int .u64 17627433388654248598, .int .u64 8575836109218198432, .int .u64 17923454489921339634, .int .u64 7716867327612699207, .int .u64 14678990851816772085, .int .u64 3156516839386865358, .int .u64 10297457778147434006, .int .u64 5756518291402817435, .bool false]] w fun e w1 => e = .returned (.tuple #[.agg #[.int .u64 (lb x 0 : Nat), .int .u64 (lb x 1 : Nat), .int .u64 (lb x 2 : Nat), .int .u64 (lb x 3 : Nat), .int .u64 (lb y 0 : Nat), .int .u64 (lb y 1 : Nat), .int .u64 (lb y 2 : Nat), .int .u64 (lb y 3 : Nat), .bool i], .int .i64 0]) ∧ PW true true b6 false y6 w1) (cl6 : ∀ (b1 b2 : Bool) (y6 : Value) (w : World), PW b1 b2 false false y6 w → PW b1 b2 true false (.pointer (some ⟨w.heap.size, 0, none⟩)) (w.alloc (.cells #[.int .u64 0, .int .u64 0, .int .u64 0, .int .u64 0, .int .u64 0, .int .u64 0, .int .u64 0, .int .u64 0, .bool false] 26))) (cl7 : ∀ (y6 : Value) (w : World), PW true true true false y6 w → ∃ (g : Nat) (d0 d1 d2 d3 d4 d5 d6 d7 d8 : Value), y6 = .pointer (some ⟨g, 0, none⟩) ∧ Bk 26 w g #[d0, d1, d2, d3, d4, d5, d6, d7, d8] ∧ PW true true true true y6 (((((((((w.setCell ⟨g, 0, none⟩ (.int .u64 (lb x 0 : Nat))).setCell ⟨g, 1, none⟩ (.int .u64 (lb x 1 : Nat))).setCell ⟨g, 2, none⟩ (.int .u64 (lb x 2 : Nat))).setCell ⟨g, 3, none⟩ (.int .u64 (lb x 3 : Nat))).setCell ⟨g, 4, none⟩ (.int .u64 (lb y 0 : Nat))).setCell ⟨g, 5, none⟩ (.int .u64 (lb y 1 : Nat))).setCell ⟨g, 6, none⟩ (.int .u64 (lb y 2 : Nat))).setCell ⟨g, 7, none⟩ (.int .u64 (lb y 3 : Nat))).setCell ⟨g, 8, none⟩ (.bool i))) (lk : ∀ (b1 b2 b6 b7 : Bool) (y6 : Value) (w : World), PW b1 b2 b6 b7 y6 w → w.cell? ⟨gk, 0, none⟩ = some (.int .u64 (lb k 0 : Nat)) ∧ w.cell? ⟨gk, 1, none⟩ = some (.int .u64 (lb k 1 : Nat)) ∧ w.cell? ⟨gk, 2, none⟩ = some (.int .u64 (lb k 2 : Nat)) ∧ w.cell? ⟨gk, 3, none⟩ = some (.int .u64 (lb k 3 : Nat))) {t0 t2 t3 t4 t5 t6 t7 t8 t9 t10 t11 : Value} (w0 : PW false false false false t3 w.drew) {ds : List Deferred} {Q : Exit → Act → World → Prop}
    (h : ∀ (y6 : Value) (w1 : World), PW true true true true y6 w1 → Q .normal { tmps := #[t0, .pointer (some ⟨gk, 0, none⟩), t2, y6, .int .i64 0, .tuple #[.agg #[.int .u64 (lb x 0 : Nat), .int .u64 (lb x 1 : Nat), .int .u64 (lb x 2 : Nat), .int .u64 (lb x 3 : Nat), .int .u64 (lb y 0 : Nat), .int .u64 (lb y 1 : Nat), .int .u64 (lb y 2 : Nat), .int .u64 (lb y 3 : Nat), .bool i], .int .i64 0], .agg #[.int .u64 (lb k 0 : Nat), .int .u64 (lb k 1 : Nat), .int .u64 (lb k 2 : Nat), .int .u64 (lb k 3 : Nat)], .agg #[.int .u64 17627433388654248598, .int .u64 8575836109218198432, .int .u64 17923454489921339634, .int .u64 7716867327612699207, .int .u64 14678990851816772085, .int .u64 3156516839386865358, .int .u64 10297457778147434006, .int .u64 5756518291402817435, .bool false], .tuple #[.agg #[.int .u64 (lb x 0 : Nat), .int .u64 (lb x 1 : Nat), .int .u64 (lb x 2 : Nat), .int .u64 (lb x 3 : Nat), .int .u64 (lb y 0 : Nat), .int .u64 (lb y 1 : Nat), .int .u64 (lb y 2 : Nat), .int .u64 (lb y 3 : Nat), .bool i], .int .i64 0], .agg #[.int .u64 (lb x 0 : Nat), .int .u64 (lb x 1 : Nat), .int .u64 (lb x 2 : Nat), .int .u64 (lb x 3 : Nat), .int .u64 (lb y 0 : Nat), .int .u64 (lb y 1 : Nat), .int .u64 (lb y 2 : Nat), .int .u64 (lb y 3 : Nat), .bool i], .int .i64 0, t11], defers := ds } w1) :
    (Code.region 1 tBO true).wp Tryz.prog Q { tmps := #[t0, .pointer (some ⟨gk, 0, none⟩), t2, t3, t4, t5, t6, t7, t8, t9, t10, t11], defers := ds } w := by
  have hsz : tBO.size = 9 := by kernel_rfl
  generalize hT : List.toArray _ = T0
  have hs : T0.size = 12 := by subst hT; rfl
  have g1 : T0.getD 1 undef = .pointer (some ⟨gk, 0, none⟩) := by subst hT; rfl
  obtain ⟨W, hV⟩ : ∃ W : List ((Nat × (Value → Value)) ⊕ Value), W = [.inr (.agg #[.int .u64 (lb k 0 : Nat), .int .u64 (lb k 1 : Nat), .int .u64 (lb k 2 : Nat), .int .u64 (lb k 3 : Nat)]), .inr (.agg #[.int .u64 17627433388654248598, .int .u64 8575836109218198432, .int .u64 17923454489921339634, .int .u64 7716867327612699207, .int .u64 14678990851816772085, .int .u64 3156516839386865358, .int .u64 10297457778147434006, .int .u64 5756518291402817435, .bool false]), .inr (.tuple #[.agg #[.int .u64 (lb x 0 : Nat), .int .u64 (lb x 1 : Nat), .int .u64 (lb x 2 : Nat), .int .u64 (lb x 3 : Nat), .int .u64 (lb y 0 : Nat), .int .u64 (lb y 1 : Nat), .int .u64 (lb y 2 : Nat), .int .u64 (lb y 3 : Nat), .bool i], .int .i64 0]), .inr (.tuple #[.agg #[.int .u64 (lb x 0 : Nat), .int .u64 (lb x 1 : Nat), .int .u64 (lb x 2 : Nat), .int .u64 (lb x 3 : Nat), .int .u64 (lb y 0 : Nat), .int .u64 (lb y 1 : Nat), .int .u64 (lb y 2 : Nat), .int .u64 (lb y 3 : Nat), .bool i], .int .i64 0]), .inr (.agg #[.int .u64 (lb x 0 : Nat), .int .u64 (lb x 1 : Nat), .int .u64 (lb x 2 : Nat), .int .u64 (lb x 3 : Nat), .int .u64 (lb y 0 : Nat), .int .u64 (lb y 1 : Nat), .int .u64 (lb y 2 : Nat), .int .u64 (lb y 3 : Nat), .bool i]), .inr (.int .i64 0), .inl (6, id), .inr undef, .inr (.int .i64 0)] := ⟨_, rfl⟩
  refine wp_plan (by kernel_rfl) T0 ds [1, 2, 6, 7] tB_m (mkV W) (fun dx yx wx => PW (dx 1) (dx 2) (dx 6) (dx 7) (yx 6) wx) w (by rw [hs]; kernel_rfl) (by kernel_rfl) (by kernel_rfl) (by rw [hsz]; decide) (fun cx hc ix hne ha yx vx => mkV_fix (by rw [hV]; kernel_rfl) hne ha yx vx) (?key) (fun cx hc ox ho dx yx Tx wx hd hdb hda hK hW => ?_) ⟨fun k => if k = 6 then t3 else undef, w0⟩ (fun dx yx wx hd hW => ?_)
  case key =>
    rw [hsz]
    refine all_step (all_step (all_step (all_step (all_step (all_step (all_step (all_step (all_step all_zero ?_) ?_) ?_) ?_) ?_) ?_) ?_) ?_) ?_
    all_goals
      intro ox ho hic dx yx Tx wx hdb hK hW
      replace hdb := Lib.hid hdb
    · obtain ⟨ps, af, rfl⟩ := core (some 6) (.load 24 (.tmp 1)) 24 none ho (by kernel_rfl)
      have e1 : Tx.getD 1 undef = .pointer (some ⟨gk, 0, none⟩) := hK.of (by kernel_rfl) g1
      obtain ⟨hl0, hl1, hl2, hl3⟩ := lk _ _ _ _ _ _ hW
      exact wpOp_plain ho rfl (by subst hV; go_simp; try rfl)
    · exact absurd (by decide) hic
    · exact absurd (by decide) hic
    · exact pl1 5 8 2 28 ho hK (by kernel_rfl) (by kernel_rfl) (by subst hV; rfl) (by subst hV; rfl) fun ps af e => k_mv e
    · obtain ⟨ps, af, rfl⟩ := core (some 9) (.extract (.tmp 5) 0) 26 none ho (by kernel_rfl)
      have e5 : Tx.getD 5 undef = .tuple #[.agg #[.int .u64 (lb x 0 : Nat), .int .u64 (lb x 1 : Nat), .int .u64 (lb x 2 : Nat), .int .u64 (lb x 3 : Nat), .int .u64 (lb y 0 : Nat), .int .u64 (lb y 1 : Nat), .int .u64 (lb y 2 : Nat), .int .u64 (lb y 3 : Nat), .bool i], .int .i64 0] := hK.is 3 ho (by kernel_rfl) (by subst hV; rfl)
      exact wpOp_plain ho rfl (by subst hV; go_simp; try rfl)
    · obtain ⟨ps, af, rfl⟩ := core (some 10) (.extract (.tmp 5) 1) 27 none ho (by kernel_rfl)
      have e5 : Tx.getD 5 undef = .tuple #[.agg #[.int .u64 (lb x 0 : Nat), .int .u64 (lb x 1 : Nat), .int .u64 (lb x 2 : Nat), .int .u64 (lb x 3 : Nat), .int .u64 (lb y 0 : Nat), .int .u64 (lb y 1 : Nat), .int .u64 (lb y 2 : Nat), .int .u64 (lb y 3 : Nat), .bool i], .int .i64 0] := hK.is 3 ho (by kernel_rfl) (by subst hV; rfl)
      exact wpOp_plain ho rfl (by subst hV; go_simp; try rfl)
    · exact absurd (by decide) hic
    · exact absurd (by decide) hic
    · exact pl1 4 10 5 27 ho hK (by kernel_rfl) (by kernel_rfl) (by subst hV; rfl) (by subst hV; rfl) fun ps af e => k_as e
  · have hcase : cx = 1 ∨ cx = 2 ∨ cx = 6 ∨ cx = 7 := by simpa using hc
    rcases hcase with rfl | rfl | rfl | rfl
    · obtain ⟨ps, af, rfl⟩ := core (some 7) (.call { callee := .value (.func 48), args := #[], argTypes := #[] }) 26 none ho (by kernel_rfl)
      have hW1 : PW (dx 1) (dx 2) (dx 6) (dx 7) (yx 6) wx := hW
      have f2 := hda 2 (by decide) (by kernel_rfl)
      have f7 := hda 7 (by decide) (by kernel_rfl)
      clear hdb hda
      rw [hd, f2, f7] at hW1
      replace f2 := Lib.hid f2
      replace f7 := Lib.hid f7
      clear hd hW hc
      refine wpOp_plain ho rfl ?_
      go_simp
      go_at_call 48
      refine (cl1 _ _ _ hW1).mono ?_
      rintro ex w2 ⟨rfl, hW2⟩
      subst hV
      first | refine ⟨undef, rfl, ?_⟩ | refine ⟨⟨undef, rfl⟩, ?_⟩
      simpa [updB, upd, f2.out, f7.out] using hW2
    · obtain ⟨ps, af, rfl⟩ := core (some 8) (.call { callee := .value (.func 93), args := #[.tmp 6, .tmp 7], argTypes := #[24, 26] }) 28 none ho (by kernel_rfl)
      have e6 : Tx.getD 6 undef = .agg #[.int .u64 (lb k 0 : Nat), .int .u64 (lb k 1 : Nat), .int .u64 (lb k 2 : Nat), .int .u64 (lb k 3 : Nat)] := hK.is 0 ho (by kernel_rfl) (by subst hV; rfl)
      have e7 : Tx.getD 7 undef = .agg #[.int .u64 17627433388654248598, .int .u64 8575836109218198432, .int .u64 17923454489921339634, .int .u64 7716867327612699207, .int .u64 14678990851816772085, .int .u64 3156516839386865358, .int .u64 10297457778147434006, .int .u64 5756518291402817435, .bool false] := hK.is 1 ho (by kernel_rfl) (by subst hV; rfl)
      have hW1 : PW (dx 1) (dx 2) (dx 6) (dx 7) (yx 6) wx := hW
      have f1 := hdb 1 (by decide) (by kernel_rfl)
      have f7 := hda 7 (by decide) (by kernel_rfl)
      clear hdb hda
      rw [hd, f1, f7] at hW1
      replace f1 := Lib.hid f1
      replace f7 := Lib.hid f7
      clear hd hW hc
      refine wpOp_plain ho rfl ?_
      go_simp
      go_at_call 93
      refine (cl2 _ _ _ hW1).mono ?_
      rintro ex w2 ⟨rfl, hW2⟩
      subst hV
      first | refine ⟨undef, rfl, ?_⟩ | refine ⟨⟨undef, rfl⟩, ?_⟩
      simpa [updB, upd, f1.out, f7.out] using hW2
    · obtain ⟨ps, af, rfl⟩ := core (some 3) (.alloc 26) 0 none ho (by kernel_rfl)
      have hW1 : PW (dx 1) (dx 2) (dx 6) (dx 7) (yx 6) wx := hW
      have f7 := hda 7 (by decide) (by kernel_rfl)
      clear hdb hda
      rw [hd, f7] at hW1
      replace f7 := Lib.hid f7
      clear hd hW hc
      have hW2 := cl6 _ _ _ _ hW1
      subst hV
      refine wpOp_plain ho rfl ?_
      go_simp
      refine ⟨_, rfl, ?_⟩
      simpa [updB, upd, f7.out] using hW2
    · obtain ⟨ps, af, rfl⟩ := core none (.store 26 (.tmp 3) (.tmp 9)) 0 none ho (by kernel_rfl)
      have e3 : Tx.getD 3 undef = yx 6 := hK.is 6 ho (by kernel_rfl) (by subst hV; rfl)
      have e9 : Tx.getD 9 undef = .agg #[.int .u64 (lb x 0 : Nat), .int .u64 (lb x 1 : Nat), .int .u64 (lb x 2 : Nat), .int .u64 (lb x 3 : Nat), .int .u64 (lb y 0 : Nat), .int .u64 (lb y 1 : Nat), .int .u64 (lb y 2 : Nat), .int .u64 (lb y 3 : Nat), .bool i] := hK.is 4 ho (by kernel_rfl) (by subst hV; rfl)
      have hW1 : PW (dx 1) (dx 2) (dx 6) (dx 7) (yx 6) wx := hW
      have f1 := hdb 1 (by decide) (by kernel_rfl)
      have f2 := hdb 2 (by decide) (by kernel_rfl)
      have f6 := hdb 6 (by decide) (by kernel_rfl)
      clear hdb hda
      rw [hd, f1, f2, f6] at hW1
      replace f1 := Lib.hid f1
      replace f2 := Lib.hid f2
      replace f6 := Lib.hid f6
      clear hd hW hc
      obtain ⟨g, d0, d1, d2, d3, d4, d5, d6, d7, d8, e6, hk, hW2⟩ := cl7 _ _ hW1
      rw [e6] at e3
      obtain ⟨⟨c0, c1, c2, c3⟩, ⟨c4, c5, c6, c7⟩, c8⟩ := hk.cells9
      obtain ⟨⟨z0, z1, z2, z3⟩, ⟨z4, z5, z6, z7⟩, z8⟩ := hk.fros9
      subst hV
      refine wpOp_plain ho rfl ?_
      go_simp
      simpa [updB, upd, f1.out, f2.out, f6.out] using hW2
  · have hW1 : PW (dx 1) (dx 2) (dx 6) (dx 7) (yx 6) wx := hW
    rw [hd 1 (by decide), hd 2 (by decide), hd 6 (by decide), hd 7 (by decide)] at hW1
    have hQ := h _ _ hW1
    rw [hsz]
    subst hV hT
    refine cast (congrArg (fun Tx => Q .normal ⟨Tx, ds⟩ wx) ?_) hQ
    kernel_rfl
end Go.Proofs.YtpggkfdijmnmiaaGreat.Pl
