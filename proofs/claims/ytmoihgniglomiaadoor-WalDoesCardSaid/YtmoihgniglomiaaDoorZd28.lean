/- WalDoes' walk: every call, in every order, on a log and on clones of it, tells what the document says. Condition: the program's table, what the arguments say. -/
import Derived.Test.YtmoihgniglomiaaDoorZd27
set_option linter.unusedVariables false
set_option linter.unusedSimpArgs false
set_option maxRecDepth 100000
namespace Go.Proofs.YtmoihgniglomiaaDoor
open Go.RowKit Go.Sort
def CW (w : World) (S : St) (uv : Value) (kp : Int) (j4 j9 : Bool) (y4 y9 : Value) (w' : World) : Prop :=
  Below w.heap.size w w' ∧ (j4 = true → ∃ p' : Fp, y4 = .pointer (some ⟨p'.b, 0, none⟩) ∧ Dk w' p' S ∧ ∀ x ∈ p'.own, w.heap.size ≤ x) ∧ (j9 = true → ∃ h : Nat, y9 = .pointer (some ⟨h, 0, none⟩) ∧ Rk w' h S uv kp ∧ w.heap.size ≤ h)
def EW (w : World) (p' : Fp) (h : Nat) (S : St) (l : Wlg) (j5 j12 : Bool) (y5 y12 : Value) (w' : World) : Prop :=
  Below w.heap.size w w' ∧ (j5 = true → ∃ b' : Nat, y5 = .pointer (some ⟨b', 0, none⟩) ∧ Lk w' b' p' S l ∧ w.heap.size ≤ b') ∧ (j12 = true → ∃ rb' : Nat, y12 = .pointer (some ⟨rb', 0, none⟩) ∧ Bk 102 w' rb' (rlc h l) ∧ w.heap.size ≤ rb')
set_option maxHeartbeats 64000000 in
theorem wdoes_some (ops : List Op) (hok : ∀ x ∈ ops, OpOk x) (hlen : ops.length ≤ 2932031007402) (w : World) (hT : Tb w) (n : Nat) (hn : n = ops.length) (sa : Option Addr) (sc : Nat)
    (hcs : ops ≠ [] → ∃ b o, sa = some ⟨b, o, none⟩ ∧ b < w.heap.size ∧ ∀ i (hi : i < ops.length), w.cell? ⟨b, o + i * 5, none⟩ = some (.int .i64 ops[i].on) ∧ w.cell? ⟨b, o + i * 5 + 1, none⟩ = some (.int .i64 ops[i].kind) ∧ w.cell? ⟨b, o + i * 5 + 2, none⟩ = some (.int .i64 ops[i].a) ∧ w.cell? ⟨b, o + i * 5 + 3, none⟩ = some (.int .i64 ops[i].b) ∧ w.cell? ⟨b, o + i * 5 + 4, none⟩ = some (.string ops[i].s)) :
    Calls Tryd.prog 4 #[.slice sa n sc] w fun e w' => e = .returned (.bool true) ∧ Below w.heap.size w w' := by
  have HN := Lib.hid hn
  have HOK := Lib.hid hok
  have HC := Lib.hid hcs
  have HT := Lib.hid hT
  have HZ : Hid (0 < w.heap.size) := Lib.hid hT.1
  have hnl : n ≤ 2932031007402 := by omega
  have hba : Below w.heap.size w (w.alloc (.cells #[.string ⟨#[]⟩, .string ⟨#[]⟩] 9)) := by go_grown
  have HNW := Lib.hid (new_ok w.heap.size 0 2 ⟨#[]⟩ ⟨#[]⟩ (w.alloc (.cells #[.string ⟨#[]⟩, .string ⟨#[]⟩] 9)) (by rw [World.size_alloc]; omega) ((Bk.new (t := 9) rfl).cell 0) ((Bk.new (t := 9) rfl).cell 1) (by decide) (by decide))
  have HBA := Lib.hid hba
  clear hok hcs hn hT hlen hba
  go_enter Tryd.func4, Tryd.ntmps4
  go_wp2_with fail
  refine HNW.out.mono ?_
  rintro e w1 ⟨p, rfl, hd, hb, hk⟩
  have hb1 : Below w.heap.size w w1 := HBA.out.trans (hb.mono HBA.out.size)
  have HD1 : Hid (Dk w1 p e0) := Lib.hid hd
  have HB1 := Lib.hid hb1
  have HK1 : Hid (∀ k ∈ p.own, w.heap.size ≤ k) := Lib.hid fun k hk' => Nat.le_trans HBA.out.size (hk k hk')
  clear hd hb hk hb1 HNW HBA
  unfold Fp.v
  have HRN := Lib.hid (rnew_ok w1.heap.size 0 2 ⟨#[]⟩ ⟨#[]⟩ (w1.alloc (.cells #[.string ⟨#[]⟩, .string ⟨#[]⟩] 9)) ((Bk.new (t := 9) rfl).cell 0) ((Bk.new (t := 9) rfl).cell 1) (by decide) (by decide))
  go_wp2_with fail
  refine HRN.out.mono ?_
  rintro e w2 ⟨rfl, hrk, hb2, hlt2⟩
  have hbb : Below w1.heap.size w1 (w1.alloc (.cells #[.string ⟨#[]⟩, .string ⟨#[]⟩] 9)) := by go_grown
  have P2 : Hid (PO w.heap.size w w2 p (w1.alloc (.cells #[.string ⟨#[]⟩, .string ⟨#[]⟩] 9)).heap.size e0 e0 (.slice none 0 0) 0) := Lib.hid (PO.start (HD1.out.below hbb) (HB1.out.trans (hbb.mono HB1.out.size)) HK1.out HT.out hrk hb2)
  clear hrk hb2 hlt2 hbb HD1 HB1 HK1 HRN
  generalize (w1.alloc (.cells #[.string ⟨#[]⟩, .string ⟨#[]⟩] 9)).heap.size = r at P2 ⊢
  obtain ⟨pb, hpb⟩ : ∃ x, x = p.b := ⟨_, rfl⟩
  have HPB := Lib.hid hpb
  rw [← hpb]
  clear hpb
  have hwn := wnew_any P2.out.d.dk P2.out.d.tb (P2.out.d.zo HZ.out)
  rw [show p.v = .pointer (some ⟨pb, 0, none⟩) by unfold Fp.v; rw [HPB.out]] at hwn
  have HWN := Lib.hid hwn
  clear hwn
  go_wp2_with fail
  refine HWN.out.mono ?_
  rintro e w3 ⟨v, p3, rfl, hm3, hok3, -⟩
  obtain ⟨b, rfl, hbs, hlk⟩ := hok3 e1_ok
  have P3 := Lib.hid (P2.out.mut (Nat.le_refl _) HZ.out hm3)
  have LK3 := Lib.hid hlk
  have HBL : Hid (w.heap.size ≤ b) := Lib.hid (Nat.le_trans P2.out.d.bw.size hbs)
  have HPB3 : Hid (pb = p3.b) := Lib.hid (by rw [HPB.out, hm3.2.1])
  clear hm3 hok3 hlk hbs HWN P2 HPB
  have HRN := Lib.hid (wrnew_any P3.out.k)
  go_wp2_with fail
  refine HRN.out.mono ?_
  rintro e w4 ⟨v, rfl, hm4, hok4, -⟩
  obtain ⟨rb, rfl, hrs, hbk⟩ := hok4 e1_ok
  have ho4 := hm4.only
  obtain ⟨uv, kp, P4, -⟩ := P3.out.rm (Nat.le_refl _) HZ.out hm4
  have hL4 : Lk w4 b p3 e1 g1 := LK3.out.only ho4 (by simpa using blk_ne LK3.out.blk P3.out.k.blk (by decide)) (fun x hx hx2 => by simp at hx2; subst hx2; exact P3.out.nr hx)
  have Q4 : Hid (PO w.heap.size w w4 p3 r e1 e1 uv kp) := Lib.hid P4
  have LK4 : Hid (Lk w4 b p3 e1 g1) := Lib.hid hL4
  have BK4 : Hid (Bk 102 w4 rb (rlc r g1)) := Lib.hid hbk
  have HRB : Hid (w.heap.size ≤ rb) := Lib.hid (Nat.le_trans P3.out.d.bw.size hrs)
  clear hm4 hok4 hrs hbk ho4 P4 hL4 HRN P3 LK3
  rw [e1_ok]
  go_wp2_with fail
  have hbp : Below w4.heap.size w4 ((w4.alloc (.cells #[.pointer (some ⟨b, 0, none⟩), .pointer (some ⟨pb, 0, none⟩), .pointer (some ⟨rb, 0, none⟩), .pointer (some ⟨r, 0, none⟩)] 43)).alloc (.cells #[.pointer (some ⟨w4.heap.size, 0, none⟩)] 41)) := by go_grown
  have hpr : PR w.heap.size w ((w4.alloc (.cells #[.pointer (some ⟨b, 0, none⟩), .pointer (some ⟨pb, 0, none⟩), .pointer (some ⟨rb, 0, none⟩), .pointer (some ⟨r, 0, none⟩)] 43)).alloc (.cells #[.pointer (some ⟨w4.heap.size, 0, none⟩)] 41)) w4.heap.size b rb r p3 uv kp e1 e1 g1 g1 :=
    ⟨Q4.out.down (Nat.le_refl _) hbp, LK4.out.below hbp, BK4.out.below hbp, by rw [← HPB3.out]; exact Bk.alloc (Bk.new rfl), Q4.out.d.bw.size, HBL.out, HRB.out⟩
  have I5 : Hid (Inv w ((w4.alloc (.cells #[.pointer (some ⟨b, 0, none⟩), .pointer (some ⟨pb, 0, none⟩), .pointer (some ⟨rb, 0, none⟩), .pointer (some ⟨r, 0, none⟩)] 43)).alloc (.cells #[.pointer (some ⟨w4.heap.size, 0, none⟩)] 41)) (w4.heap.size + 1) 1 [w4.heap.size] [foot w4.heap.size b rb r p3 uv]) := Lib.hid
    ⟨Rw.one (Bk.new (by simp)), Fam.first hpr (.inl ⟨_, _, _, lnew_own.2.1⟩), by have := Q4.out.d.bw.size; omega, by simp, Q4.out.d.bw.trans (hbp.mono Q4.out.d.bw.size), hpr.po.d.tb⟩
  clear hbp hpr Q4 LK4 BK4 HRB HBL HPB3
  generalize ((w4.alloc (.cells #[.pointer (some ⟨b, 0, none⟩), .pointer (some ⟨pb, 0, none⟩), .pointer (some ⟨rb, 0, none⟩), .pointer (some ⟨r, 0, none⟩)] 43)).alloc (.cells #[.pointer (some ⟨w4.heap.size, 0, none⟩)] 41)) = w5 at I5 ⊢
  generalize [foot w4.heap.size b rb r p3 uv] = Fs0 at I5
  generalize w4.heap.size + 1 = gx0 at I5 ⊢
  go_loopw [10, 11] (fun xv iv wr => ∃ (i g c m : Nat) (qs : List Nat) (Fs : List (List Nat)), i ≤ n ∧ iv = .int .i64 (i : Int) ∧ xv = .slice (some ⟨g, 0, none⟩) m c ∧ Hid (Inv w wr g c qs Fs) ∧ Hid (m = qs.length) ∧ m ≤ i + 1) (fun _ iv _ => n - (intOf iv).toNat)
  case atStart => exact ⟨0, gx0, 1, 1, _, _, Nat.zero_le _, rfl, rfl, I5, Lib.hid rfl, Nat.le_refl _⟩
  case round =>
    obtain ⟨i, g, c, m, qs, Fs, hi, rfl, rfl, I, HM, hmi⟩ := hrel
    clear I5
    by_cases hlt : i < n
    · have hilt : i < ops.length := by rw [← HN.out]; exact hlt
      have hne : ops ≠ [] := fun e => by rw [e] at hilt; simp at hilt
      obtain ⟨b0, o0, rfl, hb0, hcs⟩ := HC.out hne
      obtain ⟨op, hop⟩ : ∃ op, ops[i]'hilt = op := ⟨_, rfl⟩
      have hcs := hcs i hilt
      rw [hop] at hcs
      have hokp := HOK.out op (hop ▸ List.getElem_mem hilt)
      have e : ∀ k, wr.cell? ⟨b0, k, none⟩ = w.cell? ⟨b0, k, none⟩ := fun k => I.out.bel.cell (p := ⟨b0, k, none⟩) hb0
      simp only [← e] at hcs
      obtain ⟨d0, d1, d2, d3, d4⟩ := hcs
      have hix := index23 b0 o0 sc n i hlt
      have HOP := Lib.hid hokp
      have hmp : 0 < m := by rw [HM.out]; exact I.out.pos
      obtain ⟨k, hk, hkm⟩ : ∃ k : Nat, op.on % (m : Int) = (k : Int) ∧ k < m := by
        have h1 := Int.emod_nonneg op.on (show (m : Int) ≠ 0 by omega)
        have h2 := Int.emod_lt_of_pos op.on (show (0 : Int) < (m : Int) by omega)
        exact ⟨(op.on % (m : Int)).toNat, by omega, by omega⟩
      have HP := Lib.hid (fun w' => place_any op.on m (by omega) (by omega) hokp.1 hokp.2.1 w')
      rw [hk] at HP
      have hkq : k < qs.length := by rw [← HM.out]; exact hkm
      obtain ⟨q, hq⟩ : ∃ q, qs[k]? = some q := ⟨_, List.getElem?_eq_getElem hkq⟩
      have HQ := Lib.hid hq
      have hbx : Below wr.heap.size wr (wr.alloc (.cells #[.int .i64 op.on, .int .i64 op.kind, .int .i64 op.a, .int .i64 op.b, .string op.s] 46)) := by go_grown
      have I2 := Lib.hid (I.out.below hbx)
      have K2 : Hid (Bk 46 (wr.alloc (.cells #[.int .i64 op.on, .int .i64 op.kind, .int .i64 op.a, .int .i64 op.b, .string op.s] 46)) wr.heap.size #[.int .i64 op.on, .int .i64 op.kind, .int .i64 op.a, .int .i64 op.b, .string op.s]) := Lib.hid (Bk.new rfl)
      have x0 : (wr.alloc (.cells #[.int .i64 op.on, .int .i64 op.kind, .int .i64 op.a, .int .i64 op.b, .string op.s] 46)).cell? ⟨g, k, none⟩ = some (.pointer (some ⟨q, 0, none⟩)) := by
        have := I2.out.row.cell k hkq
        rw [List.getElem?_eq_getElem hkq] at hq
        cases hq
        exact this
      have hxi := index44 g c m k hkm
      clear hk hkq hq hbx e hop hne hokp hmp I
      generalize hso : op.s = so at d4 I2 K2 x0
      generalize hon : op.on = on at d0 I2 K2 x0 HP
      generalize hkd : op.kind = kind at d1 I2 K2 x0
      generalize hoa : op.a = oa at d2 I2 K2 x0
      generalize hob : op.b = ob at d3 I2 K2 x0
      have HOPE : Hid (op = ⟨on, kind, oa, ob, so⟩) := Lib.hid (by cases op; simp_all)
      clear hso hon hkd hoa hob
      by_cases hkind : kind = 5
      · have t5 : (kind == 5) = true := by simp [hkind]
        clear hkind
        go_wp2_with fail
        refine (HP.out _).mono ?_
        rintro e wx ⟨rfl, rfl⟩
        obtain ⟨go, hgo⟩ : ∃ x, x = wr.heap.size := ⟨_, rfl⟩
        obtain ⟨w6, hw6⟩ : ∃ x, x = (wr.alloc (.cells #[.int .i64 on, .int .i64 kind, .int .i64 oa, .int .i64 ob, .string so] 46)) := ⟨_, rfl⟩
        have k1 := K2.out.cell 1
        simp only [List.getElem?_toArray, List.getElem?_cons_succ, List.getElem?_cons_zero] at k1
        rw [← hw6, ← hgo] at k1
        rw [← hw6, ← hgo] at K2
        rw [← hw6] at I2 x0
        rw [← hw6, ← hgo]
        clear hw6 hgo d0 d1 d2 d3 d4 hix HP
        go_wp2_with fail
        clear k1 x0 hxi
        obtain ⟨F, hF, b, rb, r, p, uv, kp, S, l, hfo, hpr, hli⟩ := I2.out.fam.at HQ.out
        have PR6 := Lib.hid hpr
        have LI6 := Lib.hid hli
        have HFF := Lib.hid hF
        clear hpr hli hfo hF
        refine rCA (CW w6 S uv kp) q p.b r w6 ?l1 ?l3 ?c4 ?c9 ?w0 ?h
        case l1 => exact fun _ _ _ _ w' hp => (PR6.out.qk.below hp.1).cell 1
        case l3 => exact fun _ _ _ _ w' hp => (PR6.out.qk.below hp.1).cell 3
        case w0 => exact ⟨⟨rfl, rfl, rfl, Nat.le_refl _, fun _ _ => rfl⟩, (fun h => by cases h), (fun h => by cases h)⟩
        case c4 =>
          rintro y4 y9 w' ⟨h1, -, h3⟩
          refine (clone_any p S w' (PR6.out.po.d.dk.below h1)).mono ?_
          rintro e w2 ⟨p', rfl, hd, hb, hk⟩
          exact ⟨_, rfl, h1.trans (hb.mono h1.size), fun _ => ⟨p', rfl, hd, fun x hx => Nat.le_trans h1.size (hk x hx)⟩, (fun h => by cases h)⟩
        case c9 =>
          rintro y4 y9 w' ⟨h1, h2, -⟩
          obtain ⟨p', e4, hd, hk⟩ := h2 rfl
          refine (copy12 r S uv kp w' (PR6.out.po.k.below h1)).mono ?_
          rintro e w2 ⟨rfl, hr, hb, hlt⟩
          exact ⟨_, rfl, h1.trans (hb.mono h1.size), fun _ => ⟨p', e4, hd.below hb, hk⟩, fun _ => ⟨_, rfl, hr, h1.size⟩⟩
        case h =>
        rintro y4 y9 w7 ⟨hb7, h4, h9⟩
        obtain ⟨p7, rfl, hd7, hk7⟩ := h4 rfl
        obtain ⟨h7, rfl, hr7, hh7⟩ := h9 rfl
        have HB7 := Lib.hid hb7
        have HD7 := Lib.hid hd7
        have HK7 := Lib.hid hk7
        have HR7 := Lib.hid hr7
        have HH7 := Lib.hid hh7
        have PR7 := Lib.hid (PR6.out.below (Nat.le_refl _) hb7)
        clear hb7 h4 h9 hd7 hk7 hr7 hh7
        go_wp2_with fail
        have hz7 : 0 ∉ p7.own := fun hx => by have h1 := HK7.out 0 hx; have h2 := I2.out.bel.size; have h3 := HZ.out; omega
        have HZ7 := Lib.hid hz7
        clear hz7
        refine rCB (EW w7 p7 h7 S l) q b rb p7.b h7 w7 ?l0 ?l2 ?c5 ?c12 ?w0 ?h
        case l0 => exact fun _ _ _ _ w' hp => (PR7.out.qk.below hp.1).cell 0
        case l2 => exact fun _ _ _ _ w' hp => (PR7.out.qk.below hp.1).cell 2
        case w0 => exact ⟨⟨rfl, rfl, rfl, Nat.le_refl _, fun _ _ => rfl⟩, (fun h => by cases h), (fun h => by cases h)⟩
        case c5 =>
          rintro y5 y12 w' ⟨h1, -, h3⟩
          refine (lclone_any (PR7.out.lk.below h1) (HD7.out.below h1) HZ7.out (by have a1 := h1.size; have a2 := HB7.out.size; have a3 := I2.out.bel.size; have a4 := HZ.out; omega)).mono ?_
          rintro e w2 ⟨rfl, hb, hl⟩
          exact ⟨_, rfl, h1.trans (hb.mono h1.size), fun _ => ⟨_, rfl, hl, h1.size⟩, (fun h => by cases h)⟩
        case c12 =>
          rintro y5 y12 w' ⟨h1, h2, -⟩
          obtain ⟨b', e5, hl, hk⟩ := h2 rfl
          refine (rcopy_any (r2 := h7) (PR7.out.bk.below h1)).mono ?_
          rintro e w2 ⟨rfl, hr, hb, hlt⟩
          exact ⟨_, rfl, h1.trans (hb.mono h1.size), fun _ => ⟨b', e5, hl.below hb, hk⟩, fun _ => ⟨_, rfl, hr, h1.size⟩⟩
        case h =>
        rintro y5 y12 w8 ⟨hb8, h5, h12⟩
        obtain ⟨b8, rfl, hl8, hbs8⟩ := h5 rfl
        obtain ⟨rb8, rfl, hk8, hrs8⟩ := h12 rfl
        have hb68 : Below w6.heap.size w6 w8 := HB7.out.trans (hb8.mono HB7.out.size)
        have hs7 := HB7.out.size
        have hbq : Below w8.heap.size w8 (w8.alloc (.cells #[.pointer (some ⟨b8, 0, none⟩), .pointer (some ⟨p7.b, 0, none⟩), .pointer (some ⟨rb8, 0, none⟩), .pointer (some ⟨h7, 0, none⟩)] 43)) := by go_grown
        have hb6 : Below w6.heap.size w6 (w8.alloc (.cells #[.pointer (some ⟨b8, 0, none⟩), .pointer (some ⟨p7.b, 0, none⟩), .pointer (some ⟨rb8, 0, none⟩), .pointer (some ⟨h7, 0, none⟩)] 43)) := hb68.trans (hbq.mono hb68.size)
        have hB : w.heap.size ≤ w6.heap.size := I2.out.bel.size
        have hd9 := (HD7.out.below hb8).below hbq
        have hr9 := (HR7.out.below hb8).below hbq
        have hl9 := hl8.below hbq
        have hk9 := hk8.below hbq
        have q9 : Bk 43 (w8.alloc (.cells #[.pointer (some ⟨b8, 0, none⟩), .pointer (some ⟨p7.b, 0, none⟩), .pointer (some ⟨rb8, 0, none⟩), .pointer (some ⟨h7, 0, none⟩)] 43)) w8.heap.size #[.pointer (some ⟨b8, 0, none⟩), .pointer (some ⟨p7.b, 0, none⟩), .pointer (some ⟨rb8, 0, none⟩), .pointer (some ⟨h7, 0, none⟩)] := Bk.new rfl
        have hnew : PR w.heap.size w (w8.alloc (.cells #[.pointer (some ⟨b8, 0, none⟩), .pointer (some ⟨p7.b, 0, none⟩), .pointer (some ⟨rb8, 0, none⟩), .pointer (some ⟨h7, 0, none⟩)] 43)) w8.heap.size b8 rb8 h7 p7 uv kp S S l l := by
          refine ⟨⟨⟨hd9, I2.out.bel.trans (hb6.mono hB), fun x hx => Nat.le_trans hB (HK7.out x hx), I2.out.tb.below hb6⟩, hr9, Nat.le_trans hB HH7.out, PR6.out.po.ub, fun hx => ?_, fun x e hx => ?_⟩, hl9, hk9, q9, by have := hb68.size; omega, by omega, by omega⟩
          · obtain ⟨cs', t', z', e1, e2⟩ := hd9.typ h7 hx
            exact blk_ne hr9.blk e1 (by rcases e2 with rfl | rfl | rfl <;> decide) rfl
          · obtain ⟨cs', t', z', e1, e2⟩ := hd9.typ x hx
            obtain ⟨cs2, z2, e3⟩ := hr9.uty x e
            exact blk_ne e3 e1 (by rcases e2 with rfl | rfl | rfl <;> decide) rfl
        have hfar : ∀ x ∈ foot w8.heap.size b8 rb8 h7 p7 uv, w6.heap.size ≤ x := fun x hx => by
          have a1 := hb68.size
          rcases foot_mem.1 hx with rfl | rfl | rfl | rfl | hx
          · exact a1
          · omega
          · omega
          · exact HH7.out
          · exact HK7.out x hx
        have FM9 : Hid (Fam w.heap.size w (w8.alloc (.cells #[.pointer (some ⟨b8, 0, none⟩), .pointer (some ⟨p7.b, 0, none⟩), .pointer (some ⟨rb8, 0, none⟩), .pointer (some ⟨h7, 0, none⟩)] 43)) (qs ++ [w8.heap.size]) (Fs ++ [foot w8.heap.size b8 rb8 h7 p7 uv])) := Lib.hid (I2.out.fam.push (Nat.le_refl _) hb6 hnew LI6.out hfar)
        have RW9 := Lib.hid (I2.out.row.below hb6)
        have BW9 := Lib.hid (I2.out.bel.trans (hb6.mono hB))
        have TB9 := Lib.hid (I2.out.tb.below hb6)
        have K9 := Lib.hid (K2.out.below hb6)
        have LOW := Lib.hid I2.out.low
        have HLQ : Hid (qs.length ≤ 4000000000000) := Lib.hid (by have := HM.out; omega)
        clear hb8 h5 h12 hl8 hbs8 hk8 hrs8 hb68 hs7 hbq hb6 hB hd9 hr9 hl9 hk9 q9 hnew hfar HB7 HD7 HK7 HR7 HH7 PR7 HZ7 PR6 LI6 HFF I2 K2
        rw [rCB_tail]
        obtain ⟨bn, hbn⟩ : ∃ x, x = p7.b := ⟨_, rfl⟩
        rw [← hbn] at FM9 RW9 BW9 TB9 K9 ⊢
        clear hbn
        obtain ⟨w9, hw9⟩ : ∃ x, x = (w8.alloc (.cells #[.pointer (some ⟨b8, 0, none⟩), .pointer (some ⟨bn, 0, none⟩), .pointer (some ⟨rb8, 0, none⟩), .pointer (some ⟨h7, 0, none⟩)] 43)) := ⟨_, rfl⟩
        have z0 : (w8.alloc (.cells #[.pointer (some ⟨b8, 0, none⟩), .pointer (some ⟨bn, 0, none⟩), .pointer (some ⟨rb8, 0, none⟩), .pointer (some ⟨h7, 0, none⟩)] 43)).cell? ⟨w8.heap.size, 0, none⟩ = some (.pointer (some ⟨b8, 0, none⟩)) := (Bk.new (t := 43) rfl).cell 0
        have hbz : Below (w8.alloc (.cells #[.pointer (some ⟨b8, 0, none⟩), .pointer (some ⟨bn, 0, none⟩), .pointer (some ⟨rb8, 0, none⟩), .pointer (some ⟨h7, 0, none⟩)] 43)).heap.size (w8.alloc (.cells #[.pointer (some ⟨b8, 0, none⟩), .pointer (some ⟨bn, 0, none⟩), .pointer (some ⟨rb8, 0, none⟩), .pointer (some ⟨h7, 0, none⟩)] 43)) ((w8.alloc (.cells #[.pointer (some ⟨b8, 0, none⟩), .pointer (some ⟨bn, 0, none⟩), .pointer (some ⟨rb8, 0, none⟩), .pointer (some ⟨h7, 0, none⟩)] 43)).alloc (.cells #[.pointer (some ⟨w8.heap.size, 0, none⟩)] 41)) := by go_grown
        obtain ⟨g', c', w10, hrun, hrw, hon, hg'⟩ := app_row (w := (w8.alloc (.cells #[.pointer (some ⟨b8, 0, none⟩), .pointer (some ⟨bn, 0, none⟩), .pointer (some ⟨rb8, 0, none⟩), .pointer (some ⟨h7, 0, none⟩)] 43)).alloc (.cells #[.pointer (some ⟨w8.heap.size, 0, none⟩)] 41)) (b := w8.heap.size) 44 (RW9.out.below hbz) (w8.heap.size + 1) 1 (Bk.new (by simp)) HLQ.out m HM.out
        have HRUN := Lib.hid hrun
        have hf10 := (FM9.out.below (Nat.le_refl _) hbz).row (Nat.le_refl _) HZ.out (RW9.out.below hbz) LOW.out hon
        have hlow : w.heap.size ≤ g' := by
          have a1 := BW9.out.size
          have a2 := hbz.size
          have a3 := LOW.out
          rcases hg' with rfl | h
          · exact a3
          · omega
        have I10 : Hid (Inv w w10 g' c' (qs ++ [w8.heap.size]) (Fs ++ [foot w8.heap.size b8 rb8 h7 p7 uv])) := Lib.hid ⟨hrw, hf10, hlow, by simp, (BW9.out.trans (hbz.mono BW9.out.size)).trans (hon.below (Nat.le_trans BW9.out.size hbz.size) (by simpa using LOW.out)), (TB9.out.below hbz).only hon (by have := LOW.out; have := HZ.out; simp; omega)⟩
        have K10 : Bk 46 w10 go #[.int .i64 on, .int .i64 kind, .int .i64 oa, .int .i64 ob, .string so] := (K9.out.below hbz).only hon (by
          obtain ⟨cur, hcur⟩ := (RW9.out.below hbz).typ
          simpa using blk_ne (K9.out.below hbz) hcur (by decide))
        have k0 := K10.cell 0
        have k1 := K10.cell 1
        have k2 := K10.cell 2
        have k3 := K10.cell 3
        have k4 := K10.cell 4
        simp only [List.getElem?_toArray, List.getElem?_cons_succ, List.getElem?_cons_zero] at k0 k1 k2 k3 k4
        have HQ10 : Hid ((qs ++ [w8.heap.size])[k]? = some q) := Lib.hid (by
          have := (List.getElem?_eq_some_iff.1 HQ.out).1
          rw [List.getElem?_append_left this]; exact HQ.out)
        have HM10 : Hid (m + 1 = (qs ++ [w8.heap.size]).length) := Lib.hid (by rw [List.length_append, List.length_singleton, HM.out])
        clear hw9 hbz hrun hrw hon hg' hf10 hlow K10 FM9 RW9 BW9 TB9 K9 LOW HLQ HQ HM
        go_wp2_with (at_builtin; refine Lib.wpList_append_run _ rfl _ _ 44 44 rfl _ _ rfl rfl _ w10 HRUN.out ?_)
        have hdo := I10.out.does HZ.out HQ10.out op HOP.out
        rw [HOPE.out] at hdo
        have HDO := Lib.hid hdo
        clear hdo I10
        go_wp2_with fail
        refine HDO.out.mono ?_
        rintro e w8 ⟨rfl, ⟨Fs8, h8⟩, -⟩
        have I8 := Lib.hid h8
        clear h8 HDO
        have HSM := Lib.hid (I8.out.same HQ10.out)
        go_wp2_with fail
        refine HSM.out.mono ?_
        rintro e w9 ⟨rfl, h9⟩
        have I9 := Lib.hid h9
        clear h9 HSM I8
        go_wp2_with fail
        go_roundw
        case rel => exact ⟨i + 1, g', c', m + 1, _, Fs8, by omega, by go_num, rfl, I9, HM10, by omega⟩
        case measure => simp [intOf]; omega
      · have t5 : (kind == 5) = false := by simpa using hkind
        clear hkind
        go_wp2_with fail
        refine (HP.out _).mono ?_
        rintro e wx ⟨rfl, rfl⟩
        obtain ⟨go, hgo⟩ : ∃ x, x = wr.heap.size := ⟨_, rfl⟩
        obtain ⟨w6, hw6⟩ : ∃ x, x = (wr.alloc (.cells #[.int .i64 on, .int .i64 kind, .int .i64 oa, .int .i64 ob, .string so] 46)) := ⟨_, rfl⟩
        have k0 := K2.out.cell 0
        have k1 := K2.out.cell 1
        have k2 := K2.out.cell 2
        have k3 := K2.out.cell 3
        have k4 := K2.out.cell 4
        simp only [List.getElem?_toArray, List.getElem?_cons_succ, List.getElem?_cons_zero] at k0 k1 k2 k3 k4
        rw [← hw6, ← hgo] at k0 k1 k2 k3 k4
        rw [← hw6] at I2 x0
        rw [← hw6, ← hgo]
        clear hw6 hgo d0 d1 d2 d3 d4 hix HP K2
        go_wp2_with fail
        have hdo := I2.out.does HZ.out HQ.out op HOP.out
        rw [HOPE.out] at hdo
        have HDO := Lib.hid hdo
        clear hdo I2
        go_wp2_with fail
        refine HDO.out.mono ?_
        rintro e w8 ⟨rfl, ⟨Fs8, h8⟩, -⟩
        have I8 := Lib.hid h8
        clear h8 HDO
        have HSM := Lib.hid (I8.out.same HQ.out)
        go_wp2_with fail
        refine HSM.out.mono ?_
        rintro e w9 ⟨rfl, h9⟩
        have I9 := Lib.hid h9
        clear h9 HSM I8
        go_wp2_with fail
        go_roundw
        case rel => exact ⟨i + 1, g, c, m, _, Fs8, by omega, by go_num, rfl, I9, HM, by omega⟩
        case measure => simp [intOf]; omega
    · have hin : i = n := by omega
      subst hin
      have HMB : m ≤ 2932031007403 := by omega
      clear hlt hmi hi
      go_wp2_with fail
      go_loopw [19] (fun jv wx => ∃ j : Nat, j ≤ m ∧ jv = .int .i64 (j : Int) ∧ Hid (Inv w wx g c qs Fs)) (fun jv _ => m - (intOf jv).toNat)
      case atStart => exact ⟨0, Nat.zero_le _, rfl, I⟩
      case round =>
        obtain ⟨j, hj, rfl, I4⟩ := hrel
        clear I
        by_cases hlt : j < m
        · have hjq : j < qs.length := by rw [← HM.out]; exact hlt
          have x0 := I4.out.row.cell j hjq
          have hxi := index44 g c m j hlt
          have hsm := I4.out.same (List.getElem?_eq_getElem hjq)
          generalize qs[j] = q at x0 hsm
          have HSM := Lib.hid hsm
          clear hsm hjq I4
          go_wp2_with fail
          refine HSM.out.mono ?_
          rintro e w10 ⟨rfl, h10⟩
          have I10 := Lib.hid h10
          clear h10 HSM x0 hxi
          go_wp2_with fail
          go_roundw
          case rel => exact ⟨j + 1, by omega, by go_num, I10⟩
          case measure => simp [intOf]; omega
        · have hjm : j = m := by omega
          subst hjm
          clear hlt hj
          have HF := Lib.hid (fixed_any _ I4.out.tb)
          have HBW := Lib.hid I4.out.bel
          clear I4
          go_wp2_with fail
          refine HF.out.mono ?_
          rintro e w11 ⟨rfl, hb⟩
          have BF := Lib.hid (HBW.out.trans (hb.mono HBW.out.size))
          clear hb HF HBW
          go_wp2_with fail
          go_ret
          exact ⟨rfl, BF.out⟩
theorem wdoes_walk (v : Value) (ops : List Op) (hok : ∀ x ∈ ops, OpOk x) (hlen : ops.length ≤ 2932031007402) (w : World) (h : OpsIn w v ops) (hT : Tb w) :
    Calls Tryd.prog 4 #[v] w fun e w' => e = .returned (.bool true) ∧ Below w.heap.size w w' := by
  obtain ⟨a, c, rfl, hl⟩ := h
  exact wdoes_some ops hok hlen w hT _ rfl a c hl
end Go.Proofs.YtmoihgniglomiaaDoor
