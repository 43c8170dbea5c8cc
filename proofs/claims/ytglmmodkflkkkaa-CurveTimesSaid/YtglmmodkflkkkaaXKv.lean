import Derived.Test.YtglmmodkflkkkaaXKk
import Derived.Test.YtglmmodkflkkkaaXFt
set_option linter.unusedVariables false
set_option linter.unusedSimpArgs false
set_option maxRecDepth 100000
namespace Go.Proofs.Ytglmmodkflkkkaa.Ref
open Go.RowKit Go.Proofs.Ytglmmodkflkkkaa.Digits Limbs Curve
theorem Bk.puto3 {t : TypeId} {w : World} {g h : Nat} {cs : Array Value} {d e f : Value} (hn : g ≠ h) (k : Bk t w g cs) : Bk t (((w.setCell ⟨h, 0, none⟩ d).setCell ⟨h, 1, none⟩ e).setCell ⟨h, 2, none⟩ f) g cs :=
  Bk.oth hn (Bk.oth hn (Bk.oth hn k))
theorem RP.nv {w : World} {i : Bool} {ax ay : Option Addr} {nx cx ny cy : Nat} {p : Po} (h : RP w (.agg #[.bool i, .slice ax nx cx, .slice ay ny cy]) p) : i = p.i ∧ (p.i = false → NV w (.slice ax nx cx) p.x ∧ NV w (.slice ay ny cy) p.y) := by
  obtain ⟨a1, n1, c1, a2, n2, c2, he, hn⟩ := h
  simp only [Value.agg.injEq, Array.mk.injEq, List.cons.injEq, Value.bool.injEq, Value.slice.injEq, and_true] at he
  obtain ⟨rfl, ⟨rfl, rfl, rfl⟩, rfl, rfl, rfl⟩ := he
  exact ⟨rfl, hn⟩
theorem RP.mk {w : World} {i : Bool} {ax ay : Option Addr} {nx cx ny cy : Nat} {p : Po} (hi : i = p.i) (h : p.i = false → NV w (.slice ax nx cx) p.x ∧ NV w (.slice ay ny cy) p.y) : RP w (.agg #[.bool i, .slice ax nx cx, .slice ay ny cy]) p :=
  ⟨ax, nx, cx, ay, ny, cy, by rw [hi], h⟩
theorem RP.put {w : World} {i b : Bool} {ax ay ex ey : Option Addr} {nx cx ny cy g m1 d1 m2 d2 : Nat} {p : Po} {d e f : Value} (h : RP w (.agg #[.bool i, .slice ax nx cx, .slice ay ny cy]) p) (hk : Bk 64 w g #[.bool b, .slice ex m1 d1, .slice ey m2 d2]) :
    RP (((w.setCell ⟨g, 0, none⟩ d).setCell ⟨g, 1, none⟩ e).setCell ⟨g, 2, none⟩ f) (.agg #[.bool i, .slice ax nx cx, .slice ay ny cy]) p :=
  RP.mk h.nv.1 (fun hi => ⟨put3_ex (h.nv.2 hi).1 hk, put3_ex (h.nv.2 hi).2 hk⟩)
def mulB (p : Po) (k j : Nat) : Po := ofPt (mul (toPt p) (k / 2 ^ j))
theorem mulB_on {p : Po} (hp : p.on = true) (k j : Nat) : (mulB p k j).on = true := (on_ofPt (mul_on (on_iff hp).1 _)).1
theorem mulB_to {p : Po} (hp : p.on = true) (k j : Nat) : toPt (mulB p k j) = mul (toPt p) (k / 2 ^ j) := (on_ofPt (mul_on (on_iff hp).1 _)).2.1
theorem mulB_dbl {p : Po} (hp : p.on = true) (k j : Nat) (h : k / 2 ^ j = 2 * (k / 2 ^ (j + 1))) : (mulB p k (j + 1)).add (mulB p k (j + 1)) = mulB p k j := by
  rw [add_is (mulB_on hp _ _) (mulB_on hp _ _), mulB_to hp, mul_two (on_iff hp).1, ← h]
  rfl
theorem add_on' {p q : Po} (hp : p.on = true) (hq : q.on = true) : (p.add q).on = true ∧ (p.add q).ok := by
  rw [add_is hp hq]
  have h := on_ofPt (on_sum fit (on_iff hp).1 (on_iff hq).1)
  exact ⟨h.1, h.2.2⟩
theorem dbl_on {p : Po} (hp : p.on = true) (k j : Nat) : ((mulB p k j).add (mulB p k j)).on = true := (add_on' (mulB_on hp k j) (mulB_on hp k j)).1
theorem mulB_one {p : Po} (hp : p.on = true) (k j : Nat) (h : k / 2 ^ j = 2 * (k / 2 ^ (j + 1)) + 1) : ((mulB p k (j + 1)).add (mulB p k (j + 1))).add p = mulB p k j := by
  have hd := dbl_on hp k (j + 1)
  rw [add_is hd hp, add_is (mulB_on hp _ _) (mulB_on hp _ _), mulB_to hp, mul_two (on_iff hp).1, (on_ofPt (mul_on (on_iff hp).1 _)).2.1]
  show ofPt (mul (toPt p) (2 * (k / 2 ^ (j + 1)) + 1)) = _
  rw [← h]
  rfl
theorem mulB_far (p : Po) {k j : Nat} (h : k < 2 ^ j) : mulB p k j = ⟨0, 0, true⟩ := by
  unfold mulB
  rw [Nat.div_eq_of_lt h]
  rfl
set_option maxHeartbeats 16000000 in
theorem times7 (v u : Value) (p : Po) (k : Nat) (hp : p.on = true) (hk : k < big) (w : World) (h : RP w v p) (q : NV w u k) : Calls Try.prog 51 #[v, u] w fun e w' => ∃ v', e = .returned v' ∧ RP w' v' (mulB p k 0) ∧ Below w.heap.size w w' := by
  obtain ⟨r, h1, h2, h3, h4⟩ := q
  have hlen := len_big h3 h4 hk
  obtain ⟨g, cap, rfl, hc, hcm, hg, hca⟩ := h1
  have HCA := Lib.hid hca
  have HD := Lib.hid h2
  have HV := Lib.hid h4
  have HG := Lib.hid hg
  obtain ⟨L, hL⟩ : ∃ L, L = r.length := ⟨_, rfl⟩
  rw [← hL] at hlen ⊢
  have HL := Lib.hid hL
  have HFAR : Hid (mulB p k (16 * L) = ⟨0, 0, true⟩) := Lib.hid (mulB_far p (by
    have := val_lt r h2
    rw [h4, ← hL, show (65536 : Nat) = 2 ^ 16 from rfl, ← Nat.pow_mul] at this
    exact this))
  have HON := Lib.hid (fun j => mulB_on hp k j)
  have HDB := Lib.hid (fun j h => mulB_dbl hp k j h)
  have HONE := Lib.hid (fun j h => mulB_one hp k j h)
  have HDO := Lib.hid (fun j => dbl_on hp k j)
  have HP := Lib.hid hp
  obtain ⟨ax, nx, cx, ay, ny, cy, rfl, hn⟩ := h
  have HN := Lib.hid hn
  obtain ⟨pi, hpi⟩ : ∃ b, b = p.i := ⟨_, rfl⟩
  rw [← hpi]
  have HPI := Lib.hid hpi
  clear hca h2 h3 h4 hg hL hc hcm hn hpi hk hp
  go_enter Try.func51, Try.ntmps51
  go_wp2_with fail
  have KP0 : Hid (Bk 64 (((w.alloc (.cells #[.bool pi, .slice ax nx cx, .slice ay ny cy] 64)).alloc (.cells #[.bool false, .slice none 0 0, .slice none 0 0] 64)).alloc (.cells #[.bool true, .slice none 0 0, .slice none 0 0] 64)) w.heap.size #[.bool pi, .slice ax nx cx, .slice ay ny cy]) := Lib.hid (Bk.alloc (Bk.alloc (Bk.new rfl)))
  have KR0 : Hid (Bk 64 (((w.alloc (.cells #[.bool pi, .slice ax nx cx, .slice ay ny cy] 64)).alloc (.cells #[.bool false, .slice none 0 0, .slice none 0 0] 64)).alloc (.cells #[.bool true, .slice none 0 0, .slice none 0 0] 64)) (w.heap.size + 1) #[.bool false, .slice none 0 0, .slice none 0 0]) := Lib.hid (Bk.alloc (Bk.new (by simp)))
  have KT0 : Hid (Bk 64 (((w.alloc (.cells #[.bool pi, .slice ax nx cx, .slice ay ny cy] 64)).alloc (.cells #[.bool false, .slice none 0 0, .slice none 0 0] 64)).alloc (.cells #[.bool true, .slice none 0 0, .slice none 0 0] 64)) (w.heap.size + 1 + 1) #[.bool true, .slice none 0 0, .slice none 0 0]) := Lib.hid (Bk.new (by simp))
  have HB0 : Hid (Below w.heap.size w (((w.alloc (.cells #[.bool pi, .slice ax nx cx, .slice ay ny cy] 64)).alloc (.cells #[.bool false, .slice none 0 0, .slice none 0 0] 64)).alloc (.cells #[.bool true, .slice none 0 0, .slice none 0 0] 64))) := Lib.hid (by go_grown)
  obtain ⟨gR, hgR⟩ : ∃ g, g = w.heap.size + 1 := ⟨_, rfl⟩
  rw [← hgR] at KR0 KT0 ⊢
  obtain ⟨gT, hgT⟩ : ∃ g, g = gR + 1 := ⟨_, rfl⟩
  rw [← hgT] at KT0 ⊢
  have HGR := Lib.hid (show w.heap.size ≤ gR ∧ w.heap.size ≤ gT ∧ w.heap.size ≠ gT ∧ gR ≠ gT by omega)
  clear hgR hgT
  generalize (((w.alloc (.cells #[.bool pi, .slice ax nx cx, .slice ay ny cy] 64)).alloc (.cells #[.bool false, .slice none 0 0, .slice none 0 0] 64)).alloc (.cells #[.bool true, .slice none 0 0, .slice none 0 0] 64)) = w0 at KP0 KR0 KT0 HB0 ⊢
  have HT0 : Hid (RP w0 (.agg #[.bool true, .slice none 0 0, .slice none 0 0]) (mulB p k (16 * L))) := Lib.hid (by rw [HFAR.out]; exact ⟨_, _, _, _, _, _, rfl, fun h => by cases h⟩)
  go_loopw [6] (fun i wr => ∃ (j : Nat) (ti : Bool) (bx bb : Option Addr) (mx dx my dy : Nat), j ≤ 16 * L ∧ i = .int .i64 ((j : Int) - 1) ∧ Bk 64 wr w.heap.size #[.bool pi, .slice ax nx cx, .slice ay ny cy] ∧ Bk 64 wr gR #[.bool false, .slice none 0 0, .slice none 0 0] ∧ Bk 64 wr gT #[.bool ti, .slice bx mx dx, .slice bb my dy] ∧ RP wr (.agg #[.bool ti, .slice bx mx dx, .slice bb my dy]) (mulB p k j) ∧ Below w.heap.size w wr) (fun i _ => (intOf i + 1).toNat)
  case atStart => exact ⟨16 * L, true, none, none, 0, 0, 0, 0, Nat.le_refl _, by go_num, KP0.out, KR0.out, KT0.out, HT0.out, HB0.out⟩
  case round =>
    clear KP0 KR0 KT0 HB0 HT0 HFAR
    obtain ⟨j, ti, bx, bb, mx, dx, my, dy, hj, rfl, hkp, hkr, hkt, ht, hb⟩ := hrel
    have KP := Lib.hid hkp
    have KR := Lib.hid hkr
    have KT := Lib.hid hkt
    have HT := Lib.hid ht
    have HB := Lib.hid hb
    clear hkp hkr hkt ht hb
    obtain ⟨b0, b1, b2⟩ := Bk.cells3 KT.out
    by_cases h0 : j = 0
    · subst h0
      obtain ⟨c0, c1, c2⟩ := Bk.cells3 KR.out
      obtain ⟨f0, f1, f2⟩ := Bk.fros3 KR.out
      go_wp2_with fail
      refine ret_cell64 rfl gR (.bool ti) (.slice bx mx dx) (.slice bb my dy) rfl (Bk.put3 KR.out) rfl ⟨_, rfl, HT.out.put KR.out, ?_⟩
      have hb := HB.out
      have hg := HGR.out.1
      go_grown
    · obtain ⟨q, rfl⟩ : ∃ q, j = q + 1 := ⟨j - 1, by omega⟩
      have e1 : ((q + 1 : Nat) : Int) - 1 = (q : Int) := by omega
      rw [e1]
      have hkr : q / 16 < r.length := by have := HL.out; omega
      have HBIT := Lib.hid (bit_at HD.out hkr)
      have hca := HCA.out (q / 16) hkr
      have hxl := HD.out _ (List.getElem_mem hkr)
      have HHALF := Lib.hid (show k / 2 ^ q = 2 * (k / 2 ^ (q + 1)) + k / 2 ^ q % 2 by
        rw [Nat.pow_succ, ← Nat.div_div_eq_div_mul]; omega)
      rw [HV.out] at HBIT
      generalize r[q / 16] = d at hca hxl HBIT
      have HCX := Lib.hid hca
      clear hca
      have t1 : Int.tdiv (q : Int) 16 = ((q / 16 : Nat) : Int) := by rw [Int.tdiv_eq_ediv_of_nonneg (by omega)]; omega
      have t2 : Int.tmod (q : Int) 16 = ((q % 16 : Nat) : Int) := by rw [Int.tmod_eq_emod_of_nonneg (by omega)]; omega
      have t3 : (((q / 16 : Nat) : Nat) : Int) < (L : Int) := by omega
      go_wp2_with fail
      clear b0 b1 b2
      refine (qk w.heap.size w (sum7 _ _ _ _ (HON.out (q + 1)) (HON.out (q + 1)) wr HT.out HT.out) HB.out (Nat.le_refl _)).mono ?_
      rintro e w1 ⟨v1, rfl, hr1, hb1, hk1⟩
      obtain ⟨bx1, mx1, dx1, bb1, my1, dy1, rfl, hn1⟩ := hr1
      obtain ⟨ti1, hti1⟩ : ∃ b, b = ((mulB p k (q + 1)).add (mulB p k (q + 1))).i := ⟨_, rfl⟩
      rw [← hti1]
      have HR1 : Hid (RP w1 (.agg #[.bool ti1, .slice bx1 mx1 dx1, .slice bb1 my1 dy1]) ((mulB p k (q + 1)).add (mulB p k (q + 1)))) := Lib.hid (RP.mk hti1 hn1)
      have KT1 := Lib.hid (KT.out.below hk1)
      have KP1 := Lib.hid (KP.out.below hk1)
      have KR1 := Lib.hid (KR.out.below hk1)
      have HB1 := Lib.hid hb1
      have ic := (HB1.out.cell (p := ⟨g, q / 16, none⟩) HG.out).trans HCX.out
      have IC : Hid (((((World.setCell w1 ⟨gT, 0, none⟩ (.bool ti1)).setCell ⟨gT, 1, none⟩ (.slice bx1 mx1 dx1)).setCell ⟨gT, 2, none⟩ (.slice bb1 my1 dy1))).cell? ⟨g, q / 16, none⟩ = some (.int .u32 ((d : Nat) : Int))) := Lib.hid (by
        have hgT : g ≠ gT := by have := HG.out; have := HGR.out; omega
        have : ((((World.setCell w1 ⟨gT, 0, none⟩ (.bool ti1)).setCell ⟨gT, 1, none⟩ (.slice bx1 mx1 dx1)).setCell ⟨gT, 2, none⟩ (.slice bb1 my1 dy1))).heap[g]? = w1.heap[g]? := (heap_setCell_other _ _ _ _ hgT).trans ((heap_setCell_other _ _ _ _ hgT).trans (heap_setCell_other _ _ _ _ hgT))
        rw [World.cell?_of_block (w := w1) this]
        exact ic)
      clear hn1 hti1 hb1 hk1 KT KP KR HB HT ic
      obtain ⟨b0, b1, b2⟩ := Bk.cells3 KT1.out
      obtain ⟨f0, f1, f2⟩ := Bk.fros3 KT1.out
      have KT2 : Hid (Bk 64 (((World.setCell w1 ⟨gT, 0, none⟩ (.bool ti1)).setCell ⟨gT, 1, none⟩ (.slice bx1 mx1 dx1)).setCell ⟨gT, 2, none⟩ (.slice bb1 my1 dy1)) gT #[.bool ti1, .slice bx1 mx1 dx1, .slice bb1 my1 dy1]) := Lib.hid (Bk.put3 KT1.out)
      have KP2 : Hid (Bk 64 (((World.setCell w1 ⟨gT, 0, none⟩ (.bool ti1)).setCell ⟨gT, 1, none⟩ (.slice bx1 mx1 dx1)).setCell ⟨gT, 2, none⟩ (.slice bb1 my1 dy1)) w.heap.size #[.bool pi, .slice ax nx cx, .slice ay ny cy]) := Lib.hid (Bk.puto3 (HGR.out.2.2.1) KP1.out)
      have KR2 : Hid (Bk 64 (((World.setCell w1 ⟨gT, 0, none⟩ (.bool ti1)).setCell ⟨gT, 1, none⟩ (.slice bx1 mx1 dx1)).setCell ⟨gT, 2, none⟩ (.slice bb1 my1 dy1)) gR #[.bool false, .slice none 0 0, .slice none 0 0]) := Lib.hid (Bk.puto3 (HGR.out.2.2.2) KR1.out)
      have HR2 : Hid (RP (((World.setCell w1 ⟨gT, 0, none⟩ (.bool ti1)).setCell ⟨gT, 1, none⟩ (.slice bx1 mx1 dx1)).setCell ⟨gT, 2, none⟩ (.slice bb1 my1 dy1)) (.agg #[.bool ti1, .slice bx1 mx1 dx1, .slice bb1 my1 dy1]) ((mulB p k (q + 1)).add (mulB p k (q + 1)))) := Lib.hid (HR1.out.put KT1.out)
      have HB2 : Hid (Below w.heap.size w (((World.setCell w1 ⟨gT, 0, none⟩ (.bool ti1)).setCell ⟨gT, 1, none⟩ (.slice bx1 mx1 dx1)).setCell ⟨gT, 2, none⟩ (.slice bb1 my1 dy1))) := Lib.hid (by have hb := HB1.out; have hg := HGR.out.2.1; go_grown)
      clear HR1 KT1 KP1 KR1 HB1
      generalize q / 16 = dq at t1 t3 IC hkr
      have hs : q % 16 < 16 := Nat.mod_lt _ (by decide)
      obtain ⟨s, hss⟩ : ∃ s, s = q % 16 := ⟨_, rfl⟩
      rw [← hss] at t2 hs HBIT
      clear hss
      obtain ⟨b, hbb⟩ : ∃ b, b = k / 2 ^ q % 2 := ⟨_, rfl⟩
      have hb1 : bits .and .u32 ((d : Int) / 2 ^ s) 1 = (b : Int) := by
        have e5 : (d : Int) / 2 ^ s = ((d / 2 ^ s : Nat) : Int) := by rw [Int.natCast_ediv, Int.natCast_pow]; rfl
        have e6 : d / 2 ^ s ≤ d := Nat.div_le_self _ _
        have := u32_and_nat (d / 2 ^ s) 1 (by omega) (by decide)
        rw [show ((1 : Nat) : Int) = 1 from rfl, Nat.and_one_is_mod, HBIT.out] at this
        rw [e5, this, hbb]
      have hb01 : b = 0 ∨ b = 1 := by omega
      have HE := Lib.hid (show k / 2 ^ q = 2 * (k / 2 ^ (q + 1)) + b by rw [hbb]; exact HHALF.out)
      clear hbb HHALF
      have ic := IC.out
      rcases hb01 with rfl | rfl
      · have hb2 : bits .and .u32 ((d : Int) / 2 ^ s) 1 = 0 := hb1
        clear hb1
        have HF := HR2.out
        rw [HDB.out q (by rw [HE.out, Nat.add_zero])] at HF
        have HFF := Lib.hid HF
        clear HF HR2
        go_wp2_with fail
        go_roundw
        case rel => exact ⟨q, ti1, bx1, bb1, mx1, dx1, my1, dy1, by omega, by go_num, KP2.out, KR2.out, KT2.out, HFF.out, HB2.out⟩
        case measure => simp [intOf] <;> omega
      · have hb2 : bits .and .u32 ((d : Int) / 2 ^ s) 1 = 1 := hb1
        clear hb1
        obtain ⟨p0, p1, p2⟩ := Bk.cells3 KP2.out
        obtain ⟨s0, s1, s2⟩ := Bk.cells3 KT2.out
        go_wp2_with fail
        clear p0 p1 p2 s0 s1 s2 b0 b1 b2 f0 f1 f2 ic IC
        generalize (((World.setCell w1 ⟨gT, 0, none⟩ (.bool ti1)).setCell ⟨gT, 1, none⟩ (.slice bx1 mx1 dx1)).setCell ⟨gT, 2, none⟩ (.slice bb1 my1 dy1)) = w2 at KT2 KP2 KR2 HR2 HB2 ⊢
        refine (qk w.heap.size w (sum7 _ _ _ p (HDO.out (q + 1)) HP.out w2 HR2.out (RP.mk HPI.out (fun h => ⟨(HN.out h).1.below HB2.out, (HN.out h).2.below HB2.out⟩))) HB2.out (Nat.le_refl _)).mono ?_
        rintro e w3 ⟨v3, rfl, hr3, hb3, hk3⟩
        rw [HONE.out q HE.out] at hr3
        obtain ⟨bx3, mx3, dx3, bb3, my3, dy3, rfl, hn3⟩ := hr3
        obtain ⟨ti3, hti3⟩ : ∃ b, b = (mulB p k q).i := ⟨_, rfl⟩
        rw [← hti3]
        have HR3 : Hid (RP w3 (.agg #[.bool ti3, .slice bx3 mx3 dx3, .slice bb3 my3 dy3]) (mulB p k q)) := Lib.hid (RP.mk hti3 hn3)
        have KT3 := Lib.hid (KT2.out.below hk3)
        have KP3 := Lib.hid (KP2.out.below hk3)
        have KR3 := Lib.hid (KR2.out.below hk3)
        have HB3 := Lib.hid hb3
        clear hn3 hti3 hb3 hk3 KT2 KP2 KR2 HB2 HR2
        obtain ⟨b0, b1, b2⟩ := Bk.cells3 KT3.out
        obtain ⟨f0, f1, f2⟩ := Bk.fros3 KT3.out
        have KT4 : Hid (Bk 64 (((World.setCell w3 ⟨gT, 0, none⟩ (.bool ti3)).setCell ⟨gT, 1, none⟩ (.slice bx3 mx3 dx3)).setCell ⟨gT, 2, none⟩ (.slice bb3 my3 dy3)) gT #[.bool ti3, .slice bx3 mx3 dx3, .slice bb3 my3 dy3]) := Lib.hid (Bk.put3 KT3.out)
        have KP4 : Hid (Bk 64 (((World.setCell w3 ⟨gT, 0, none⟩ (.bool ti3)).setCell ⟨gT, 1, none⟩ (.slice bx3 mx3 dx3)).setCell ⟨gT, 2, none⟩ (.slice bb3 my3 dy3)) w.heap.size #[.bool pi, .slice ax nx cx, .slice ay ny cy]) := Lib.hid (Bk.puto3 (HGR.out.2.2.1) KP3.out)
        have KR4 : Hid (Bk 64 (((World.setCell w3 ⟨gT, 0, none⟩ (.bool ti3)).setCell ⟨gT, 1, none⟩ (.slice bx3 mx3 dx3)).setCell ⟨gT, 2, none⟩ (.slice bb3 my3 dy3)) gR #[.bool false, .slice none 0 0, .slice none 0 0]) := Lib.hid (Bk.puto3 (HGR.out.2.2.2) KR3.out)
        have HR4 : Hid (RP (((World.setCell w3 ⟨gT, 0, none⟩ (.bool ti3)).setCell ⟨gT, 1, none⟩ (.slice bx3 mx3 dx3)).setCell ⟨gT, 2, none⟩ (.slice bb3 my3 dy3)) (.agg #[.bool ti3, .slice bx3 mx3 dx3, .slice bb3 my3 dy3]) (mulB p k q)) := Lib.hid (HR3.out.put KT3.out)
        have HB4 : Hid (Below w.heap.size w (((World.setCell w3 ⟨gT, 0, none⟩ (.bool ti3)).setCell ⟨gT, 1, none⟩ (.slice bx3 mx3 dx3)).setCell ⟨gT, 2, none⟩ (.slice bb3 my3 dy3))) := Lib.hid (by have hb := HB3.out; have hg := HGR.out.2.1; go_grown)
        clear HR3 KT3 KP3 KR3 HB3
        go_wp2_with fail
        go_roundw
        case rel => exact ⟨q, ti3, bx3, bb3, mx3, dx3, my3, dy3, by omega, by go_num, KP4.out, KR4.out, KT4.out, HR4.out, HB4.out⟩
        case measure => simp [intOf] <;> omega
end Go.Proofs.Ytglmmodkflkkkaa.Ref
