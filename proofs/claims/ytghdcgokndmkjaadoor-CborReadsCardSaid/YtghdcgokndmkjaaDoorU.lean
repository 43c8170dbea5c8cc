/- What the reader's list answers: as many items as its head says, or it gives up. Conditions: at most 4096 bytes; the library's tables. -/
import Derived.Test.YtghdcgokndmkjaaDoorT
set_option linter.unusedVariables false
set_option linter.unusedSimpArgs false
namespace Go.Proofs.YtghdcgokndmkjaaDoor
open Go.RowKit Go.Sort

def contN (acc : List It) (r : Res (List It)) : Res (List It) := match r with
  | .error e => .error e
  | .ok (l, r') => .ok (acc ++ l, r')
def finL (k : Int) (r : Res (List It)) : Res It := match r with
  | .error e => .error e
  | .ok (l, r') => .ok (.mk k 0 [] l, r')
theorem contN_nil (r : Res (List It)) : contN [] r = r := by
  match r with
  | .error e => rfl
  | .ok (l, r') => rfl
theorem contN_err {f : List UInt8 → Res It} {s : List UInt8} {e : Bool} (acc : List It) (m : Nat) (h : f s = .error e) : contN acc (decN f (m + 1) s) = .error e := by
  rw [decN, h]; rfl
theorem contN_ok {f : List UInt8 → Res It} {s r : List UInt8} {t : It} (acc : List It) (m : Nat) (h : f s = .ok (t, r)) : contN acc (decN f (m + 1) s) = contN (acc ++ [t]) (decN f m r) := by
  rw [decN, h]
  show contN acc (match decN f m r with | .error e => .error e | .ok (l, r') => .ok (t :: l, r')) = _
  match decN f m r with
  | .error e => rfl
  | .ok (l, r') => simp [contN]
theorem body_4 (V : List UInt8 → Bool) (f : List UInt8 → Res It) (n : Nat) (r : List UInt8) : body V (some f) 4 n r = finL 3 (decN f n r) := rfl
theorem body_4n (V : List UInt8 → Bool) (n : Nat) (r : List UInt8) : body V Option.none 4 n r = .error true := rfl

/-- what follows a call that gives up is void -/
theorem calls_panic {P : Program} {f : FuncId} {args : Array Value} {w : World} {ch : List PanicEntry} {F : World → Prop} {Kr : Value → World → Prop} {Kp : List PanicEntry → World → Prop} {Ko : Prop} (v0 : Value) (w0 : World)
    (h : Calls P f args w fun e w' => e = .panicked ch ∧ F w') (hp : ∀ w', F w' → Kp ch w') (_ : Hid False → Kr v0 w0) :
    Calls P f args w (fun x y => match x, y with
      | .returned v, w'' => Kr v w''
      | .panicked chain, w'' => Kp chain w''
      | .outgrown, _ => Ko) := h.mono fun e w' ⟨he, hF⟩ => by subst he; exact hp w' hF

theorem RdL.setbr {d W br : Nat} {w : World} {A : Option Addr} {l : List It} (h : RdL d (fun b => W ≤ b) w A l) (hb : br < W) (o : Nat) (v : Value) : RdL d (fun b => W ≤ b) (w.setCell ⟨br, o, none⟩ v) A l :=
  h.keep (by simp [World.setCell]) (fun b hB _ => Below.heap_setCell _ _ _ _ (by simp; omega))
theorem Top.setbr {W br n : Nat} {w : World} {A : Option Addr} (h : Top W w A n) (hb : br < W) (o : Nat) (v : Value) : Top W (w.setCell ⟨br, o, none⟩ v) A n := by
  rcases h with h | ⟨g, cur, h1, h2, h3, h4⟩
  · exact .inl h
  · exact .inr ⟨g, cur, h1, h2, (Below.heap_setCell _ _ _ _ (by simp; omega)).trans h3, h4⟩
/-- what stands behind an item that was read, ahead of its append -/
structure OkF (d vb br : Nat) (s : List UInt8) (a2 outer : Nat) (w w4 : World) (vv : Value) (acc : List It) (t : It) (A : Option Addr) (bv rv : Array Value) : Prop where
  sz : Sz t
  rd : RdL d (fun b => w.heap.size + 1 ≤ b ∧ b ≠ vb ∧ some b ≠ vv.ownBlock) w4 A t.list
  rdr : Rdr br s a2 outer w4
  keeps : Keeps br w w4
  res : w4.heap[w.heap.size]? = some (.cells rv 24 (0, 0))
  box : w4.heap[vb]? = some (.cells bv 24 (0, 0))
  row : Row d (w.heap.size + 1) vb w4 vv acc
theorem OkF.of {d vb br : Nat} {s : List UInt8} {a2 outer : Nat} {w wr w4 : World} {vv : Value} {acc : List It} {t : It} {A : Option Addr} {bv rv : Array Value} (hsz : Sz t) (hrd : RdL d (fun b => wr.heap.size ≤ b) w4 A t.list) (hR : Rdr br s a2 outer w4) (hK : Keeps br wr w4)
    (hKr : Keeps br w wr) (hQ : wr.heap[w.heap.size]? = some (.cells rv 24 (0, 0))) (hV : wr.heap[vb]? = some (.cells bv 24 (0, 0))) (hRow : Row d (w.heap.size + 1) vb wr vv acc) (hbr : br < w.heap.size) (hvb : br ≠ vb) : OkF d vb br s a2 outer w w4 vv acc t A bv rv := by
  have h1 := (Array.getElem?_eq_some_iff.1 hQ).1
  have h2 := (Array.getElem?_eq_some_iff.1 hV).1
  refine ⟨hsz, hrd.mono fun b hb => ⟨by omega, by omega, fun e => ?_⟩, hR, hKr.trans hK, hK.heap hQ (by omega), hK.heap hV (by omega), hRow.keeps (by omega) hK⟩
  obtain ⟨ps, _, h3, _⟩ := hRow
  have := (h3.lt b e.symm).2
  omega
/-- .. and behind its append and the store -/
theorem OkF.step {d vb br : Nat} {s : List UInt8} {a2 outer : Nat} {w w4 w5 : World} {vv : Value} {acc : List It} {t : It} {A : Option Addr} {p q r : Value} {rv : Array Value} (u : Value) (h : OkF d vb br s a2 outer w w4 vv acc t A #[p, q, r, vv] rv) (hbr : br < w.heap.size) (hvb : w.heap.size < vb)
    (row5 : Row d (w.heap.size + 1) vb w5 u (acc ++ [t])) (blk5 : ∀ j, j < w4.heap.size → some j ≠ vv.ownBlock → w5.heap[j]? = w4.heap[j]?) (siz5 : w4.heap.size ≤ w5.heap.size) (os5 : w5.os = w4.os) (tp5 : w5.tape = w4.tape) (out5 : w5.output = w4.output) :
    Rdr br s a2 outer (w5.setCell ⟨vb, 3, none⟩ u) ∧ Keeps br w (w5.setCell ⟨vb, 3, none⟩ u) ∧ (w5.setCell ⟨vb, 3, none⟩ u).heap[w.heap.size]? = some (.cells rv 24 (0, 0)) ∧ (w5.setCell ⟨vb, 3, none⟩ u).heap[vb]? = some (.cells #[p, q, r, u] 24 (0, 0)) ∧ vb < (w5.setCell ⟨vb, 3, none⟩ u).heap.size ∧
      Row d (w.heap.size + 1) vb (w5.setCell ⟨vb, 3, none⟩ u) u (acc ++ [t]) := by
  obtain ⟨ps, _, h3, h4, _⟩ := h.row
  have hlow : ∀ j, j ≤ w.heap.size → some j ≠ vv.ownBlock := fun j hj e => by have := (h3.lt j e.symm).1; omega
  have hv := (Array.getElem?_eq_some_iff.1 h.box).1
  have hb : ∀ j, j < w4.heap.size → j ≠ vb → some j ≠ vv.ownBlock → (w5.setCell ⟨vb, 3, none⟩ u).heap[j]? = w4.heap[j]? := fun j hj hn ho => by
    rw [Below.heap_setCell _ _ _ _ hn]; exact blk5 j hj ho
  have hws := h.keeps.size
  have hbox5 : w5.heap[vb]? = some (.cells #[p, q, r, vv] 24 (0, 0)) := (blk5 vb hv (fun e => h4 e.symm)).trans h.box
  refine ⟨(hb br (by omega) (by omega) (hlow br (by omega))).trans h.rdr, ?_, (hb _ (by omega) (by omega) (hlow _ (Nat.le_refl _))).trans h.res, vset hbox5, by simp [World.setCell]; omega, row5.setv 3 u⟩
  exact ⟨os5.trans h.keeps.os, tp5.trans h.keeps.tape, out5.trans h.keeps.output, by simp [World.setCell]; omega, fun j hj hn => (hb j (by omega) (by omega) (hlow j (by omega))).trans (h.keeps.block j hj hn)⟩

set_option maxHeartbeats 1000000 in
set_option maxRecDepth 100000 in
theorem list_deep (V : List UInt8 → Bool) (d br : Nat) (s : List UInt8) (a outer n : Nat) (w : World) (hR : Rdr br s a outer w) (ho : 16 ≤ outer) :
    Calls Tryd.prog 44 #[.pointer (some ⟨br, 0, none⟩), .int .i64 n] w fun e w' => RdR d br s a outer w w' (body V Option.none 4 n (s.drop a)) e := by
  have hal : Below w.heap.size w (w.alloc (.cells #[.int .i64 0, .int .i64 0, .string ⟨#[]⟩, .slice none 0 0] 24)) := (Below.refl _ _).alloc (Nat.le_refl _) _
  have HR := Lib.hid (hR.below hal)
  have HA := Lib.hid hal
  clear hR hal
  go_enter Tryd.func44, Tryd.ntmps44
  go_wp2_with fail
  refine (enter_no br s a outer _ HR.out ho).mono ?_
  rintro e w1 ⟨rfl, rfl⟩
  exact ⟨rfl, RdR.err true (body_4n _ _ _) (Keeps.of HA.out)⟩

set_option maxHeartbeats 4000000 in
set_option maxRecDepth 100000 in
theorem list_rd (V : List UInt8 → Bool) (f : List UInt8 → Res It) (d br : Nat) (s : List UInt8) (a outer n : Nat) (w : World) (hT : Tb w) (hbr : 2 ≤ br) (hR : Rdr br s a outer w) (hs : s.length ≤ 4096) (ha : a ≤ s.length) (hn : n ≤ 9223372036854775807) (ho : outer < 16)
    (ih : ∀ (a : Nat) (w : World), Tb w → Rdr br s a (outer + 1) w → a ≤ s.length → Calls Tryd.prog 18 #[.pointer (some ⟨br, 0, none⟩)] w fun e w' => RdR d br s (a + 1) (outer + 1) w w' (f (s.drop a)) e) :
    Calls Tryd.prog 44 #[.pointer (some ⟨br, 0, none⟩), .int .i64 n] w fun e w' => RdR (d + 1) br s a outer w w' (body V (some f) 4 n (s.drop a)) e := by
  have hal : Below w.heap.size w (w.alloc (.cells #[.int .i64 0, .int .i64 0, .string ⟨#[]⟩, .slice none 0 0] 24)) := (Below.refl _ _).alloc (Nat.le_refl _) _
  have HR := Lib.hid (hR.below hal)
  have HA := Lib.hid hal
  have hlt := hR.lt
  have HQ := Lib.hid (Go.heap_alloc_new w (.cells #[.int .i64 0, .int .i64 0, .string ⟨#[]⟩, .slice none 0 0] 24))
  have HTb := Lib.hid hT
  have IH := Lib.hid ih
  clear hR hal hT ih
  go_enter Tryd.func44, Tryd.ntmps44
  go_wp2_with fail
  refine (enter_yes br s a outer _ HR.out ho).mono ?_
  rintro e w1 ⟨rfl, r1, k1⟩
  have hs1 : w.heap.size + 1 ≤ w1.heap.size := by have := k1.size; simpa using this
  have hal1 : Below w1.heap.size w1 (w1.alloc (.cells #[.int .i64 3, .int .i64 0, .string ⟨#[]⟩, .slice none 0 0] 24)) := (Below.refl _ _).alloc (Nat.le_refl _) _
  have R2 := Lib.hid (r1.below hal1)
  have K2 := Lib.hid (((Keeps.of HA.out).trans k1).below hal1)
  have Q2 := Lib.hid ((hal1.block _ (by omega)).trans (k1.heap HQ.out (by omega)))
  have V2 := Lib.hid (Go.heap_alloc_new w1 (.cells #[.int .i64 3, .int .i64 0, .string ⟨#[]⟩, .slice none 0 0] 24))
  have hs2 : w1.heap.size + 1 ≤ (w1.alloc (.cells #[.int .i64 3, .int .i64 0, .string ⟨#[]⟩, .slice none 0 0] 24)).heap.size := by simp
  clear r1 k1 hal1
  go_wp2_with fail
  generalize hvb : w1.heap.size = vb at V2 hs1 hs2 ⊢
  generalize w1.alloc (.cells #[.int .i64 3, .int .i64 0, .string ⟨#[]⟩, .slice none 0 0] 24) = w2 at R2 K2 Q2 V2 hs2 ⊢
  clear hvb
  go_loopw [10] (fun i wr => ∃ (k : Nat) (acc : List It) (a' : Nat) (vv : Value), k ≤ n ∧ i = .int .i64 k ∧ acc.length = k ∧ a + k ≤ a' ∧ a' ≤ s.length ∧ Hid (Rdr br s a' (outer + 1) wr) ∧ Hid (Keeps br w wr) ∧ Hid (wr.heap[w.heap.size]? = some (.cells #[.int .i64 0, .int .i64 0, .string ⟨#[]⟩, .slice none 0 0] 24 (0, 0))) ∧
      Hid (wr.heap[vb]? = some (.cells #[.int .i64 3, .int .i64 0, .string ⟨#[]⟩, vv] 24 (0, 0))) ∧ vb < wr.heap.size ∧ Hid (Row d (w.heap.size + 1) vb wr vv acc) ∧ Hid (decN f n (s.drop a) = contN acc (decN f (n - k) (s.drop a')))) (fun i _ => n - (intOf i).toNat)
  case atStart => exact ⟨0, [], a, _, by omega, rfl, rfl, by omega, ha, R2, K2, Q2, V2, by omega, Lib.hid (Row.nil _ _ _ _), Lib.hid (by rw [contN_nil]; rfl)⟩
  case round =>
    obtain ⟨k, acc, a', vv, hk, rfl, hacc, hka, ha', HRr, HKr, HQr, HVr, hvlt, HRow, HD⟩ := hrel
    by_cases hlk : k < n
    · have HAcc := Lib.hid hacc
      clear hacc
      have hwr : w.heap.size + 1 ≤ wr.heap.size := by have := (Array.getElem?_eq_some_iff.1 HQr.out).1; omega
      have hlen : acc.length ≤ 1073741824 := by have := HAcc.out; omega
      have HI := IH.out a' wr.drew (HTb.out.keeps HKr.out.drew hbr) HRr.out ha'
      have c3 := cellOf HVr.out 3
      simp at c3
      have f3 := Lib.frozen_of_heap HVr.out 3
      match hres : f (s.drop a'), HI with
      | .error deep, HI =>
        have HE : Hid (body V (some f) 4 n (s.drop a) = .error deep) := Lib.hid (by
          rw [body_4, HD.out, show n - k = (n - k - 1) + 1 from by omega, contN_err acc _ hres]; rfl)
        have HIp : Hid (Calls Tryd.prog 18 #[.pointer (some ⟨br, 0, none⟩)] wr.drew fun e w' => e = .panicked [{ v := .iface 25 (.int .i64 (errN deep)), recovered := false }] ∧ Keeps br wr w') := Lib.hid (HI.mono fun e w' h => by
          obtain ⟨h1, h2⟩ := h
          exact ⟨h1, ⟨h2.os, h2.tape, h2.output, h2.size, h2.block⟩⟩)
        clear HI hres
        go_wp2_with fail
        go_region_law (first | (refine stepRow (d := d) (W := w.heap.size + 1) (vb := vb) (w := wr) It.none none 0 (by rfl) _ _ (by rfl) (by rfl) (by rfl) HRow.out hwr hvlt hlen ⟨by decide, by decide, by decide⟩ (by decide) (RdL.nil _ _ _ _) ?_; intro g cap w5 row5 blk5 siz5 os5 tp5 out5 cel5 frz5) | (go_simp; go_at_call 18; (refine calls_panic (.agg #[.int .i64 0, .int .i64 0, .string ⟨#[]⟩, .slice none 0 0]) wr HIp.out (fun w' hF => ⟨rfl, RdR.err deep HE.out (HKr.out.trans hF)⟩) (fun hf => ?_))))
        all_goals exact (Hid.out ‹Hid False›).elim
      | .ok (t, rest), HI =>
        have HX : Hid (Calls Tryd.prog 18 #[.pointer (some ⟨br, 0, none⟩)] wr.drew fun e w4 => ∃ A4 c4 a4, c4 ≤ 9223372036854775807 ∧ a' + 1 ≤ a4 ∧ a4 ≤ s.length ∧ rest = s.drop a4 ∧ e = .returned (.agg #[.int .i64 t.kind, .int .i64 t.num, .string ⟨t.text.toArray⟩, .slice A4 t.list.length c4]) ∧
            OkF d vb br s a4 (outer + 1) w w4 vv acc t A4 #[.int .i64 3, .int .i64 0, .string ⟨#[]⟩, vv] #[.int .i64 0, .int .i64 0, .string ⟨#[]⟩, .slice none 0 0] ∧ w.heap.size + 1 ≤ w4.heap.size ∧ vb < w4.heap.size ∧ w4.cell? ⟨vb, 3, none⟩ = some vv ∧ w4.frozen? ⟨vb, 3, none⟩ = false) := Lib.hid (HI.mono fun e w4 h => by
          obtain ⟨A4, c4, a4, h1, h2, h3, h4, h5, h6, h7, _, h8, h9⟩ := h
          have hok := OkF.of (vb := vb) (wr := wr) h6 h7 h8 ⟨h9.os, h9.tape, h9.output, h9.size, h9.block⟩ HKr.out HQr.out HVr.out HRow.out hlt (by omega)
          exact ⟨A4, c4, a4, h1, h2, h3, h4, h5, hok, (Array.getElem?_eq_some_iff.1 hok.res).1, (Array.getElem?_eq_some_iff.1 hok.box).1, by rw [cellOf hok.box]; rfl, Lib.frozen_of_heap hok.box 3⟩)
        have HRes := Lib.hid hres
        clear HI hres
        go_wp2_with fail
        go_region_law (first | (refine stepRow (d := d) (W := w.heap.size + 1) (vb := vb) (w := w4) t A4 c4 (by rfl) _ _ (by rfl) (by rfl) (by rfl) hok4.out.row hw4 hv4 hlen hok4.out.sz hc4 hok4.out.rd ?_; intro g cap w5 row5 blk5 siz5 os5 tp5 out5 cel5 frz5) | (go_simp; go_at_call 18; refine HX.out.mono ?_; rintro e w4 ⟨A4, c4, a4, hc4, hlo4, ha4, hrest4, rfl, hok4', hw4, hv4, hcell4, hfrz4⟩; have hok4 := Lib.hid hok4'; have HR4 := Lib.hid hrest4; clear hok4' hrest4))
        all_goals
          obtain ⟨s1, s2, s3, s4, s5, s6⟩ := hok4.out.step (.slice (some ⟨g, 0, none⟩) (acc.length + 1) cap) hlt (by omega) row5 blk5 siz5 os5 tp5 out5
          have T1 := Lib.hid s1
          have T2 := Lib.hid s2
          have T3 := Lib.hid s3
          have T4 := Lib.hid s4
          have T6 := Lib.hid s6
          clear s1 s2 s3 s4 s6 row5 blk5 siz5 os5 tp5 out5 cel5 frz5 hcell4 hfrz4
          go_wp2_with fail
          go_roundw
          case rel => exact ⟨k + 1, acc ++ [t], a4, _, by omega, by go_num, by have := HAcc.out; simp; omega, by omega, ha4, T1, T2, T3, T4, s5, T6, Lib.hid (by
            rw [HD.out, show n - k = (n - (k + 1)) + 1 from by omega, contN_ok acc _ HRes.out, HR4.out])⟩
          case measure => simp [intOf]; omega
    · have HE : Hid (body V (some f) 4 n (s.drop a) = .ok (.mk 3 0 [] acc, s.drop a')) := Lib.hid (by
        rw [body_4, HD.out, show n - k = 0 from by omega]
        show finL 3 (.ok (acc ++ [], s.drop a')) = _
        rw [List.append_nil]; rfl)
      subst hacc
      have hlen : acc.length ≤ 1073741824 := by omega
      obtain ⟨A, cap, rfl, hcap, hrd, htop⟩ := HRow.out.reads hlen
      have HRD := Lib.hid hrd
      have HTop := Lib.hid htop
      obtain ⟨_, g1, g2, _, g4⟩ := HRr.out.facts
      have c0 := cellOf HVr.out 0
      have c1 := cellOf HVr.out 1
      have c2 := cellOf HVr.out 2
      have c3 := cellOf HVr.out 3
      have z0 := cellOf HQr.out 0
      have z1 := cellOf HQr.out 1
      have z2 := cellOf HQr.out 2
      have z3 := cellOf HQr.out 3
      simp at c0 c1 c2 c3 z0 z1 z2 z3
      have y0 := Lib.frozen_of_heap HQr.out 0
      have y1 := Lib.frozen_of_heap HQr.out 1
      have y2 := Lib.frozen_of_heap HQr.out 2
      have y3 := Lib.frozen_of_heap HQr.out 3
      clear hrd htop
      go_wp2_with fail
      refine bodyPost_ret (v := itV (It.mk 3 0 [] acc) A cap) (by simp [itV, It.kind, It.num, It.text, It.list, results, Tryd.results44, go_sem, z0, z1, z2, z3]) rfl ?_
      refine RdR.ok (It.mk 3 0 [] acc) A cap a' HE.out hcap (by omega) ha' ⟨by show (_ : Int) ≤ 0; omega, by show (0 : Int) ≤ _; omega, by simp [It.text]⟩ ?_ ?_ ((HRr.out.set2 outer).set4 (by omega)) ((HKr.out.setCell 2 _).set4 (by omega))
      · exact ((HRD.out.setbr (by omega) 2 _).set4 (k := w.heap.size) (by omega)).mono fun b hb => by omega
      · exact ((HTop.out.setbr (by omega) 2 _).set4 (k := w.heap.size) (by omega)).mono (by omega)
end Go.Proofs.YtghdcgokndmkjaaDoor
