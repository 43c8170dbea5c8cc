/- DiskDoes: After on both disks; any call. Conditions: that the numbers are int64, and the text's length. -/
import Derived.Test.YtekagnhablkggaaBj
set_option linter.unusedVariables false
set_option linter.unusedSimpArgs false
set_option maxRecDepth 100000
namespace Go.Proofs.Ytekagnhablkggaa
open Go.RowKit Go.Sort

theorem u22 : Try.prog.underlying 22 = some (.slice 9) := by kernel_rfl
theorem infoStr : (Try.prog.info? 9).map (fun i => (i.zero, i.size, i.bytes)) = some (some (.string ⟨#[]⟩), 1, 16) := by kernel_rfl
theorem app_more (w : World) (ty : TypeId) (g q c : Nat) (x y z : ByteArray) (h : Bk 9 w g #[.string x, .string y]) (hq : Bk 9 w q #[.string z]) :
    ∃ g' c' w', (Builtin.append_ #[22, 22] ty #[.slice (some ⟨g, 0, none⟩) 2 2, .slice (some ⟨q, 0, none⟩) 1 c]).run Try.prog w = .ok (.slice (some ⟨g', 0, none⟩) 3 c') w' ∧ Below w.heap.size w w' := by
  obtain ⟨i0, hi, hz0, hz1, hz2⟩ := info_parts infoStr
  have hr := run_append_grow (P := Try.prog) w 22 ty 9 i0 (.string ⟨#[]⟩) u22 hi hz0 ⟨g, 0, none⟩ 2 2 [.string x, .string y] (by rw [hz1]; rfl) (by
    intro j u hu
    rw [at0, h.cell]
    match j with
    | 0 => simpa using hu
    | 1 => simpa using hu
    | j + 2 => simp at hu) ⟨q, 0, none⟩ 1 c [.string z] (by rw [hz1]; rfl) (by
    intro j u hu
    rw [at0, hq.cell]
    match j with
    | 0 => simpa using hu
    | j + 1 => simp at hu) (by omega) (by omega) (by rw [hz2]; exact growslice_fits (by omega) (by omega))
  exact ⟨_, _, _, hr, (Below.refl _ _).drew.alloc (Nat.le_refl _) _⟩
section
variable {B : Nat} {w0 w : World} {ds es : List (Nat × St)} {L : List Nat} {i b r : Nat} {S : St}
set_option maxHeartbeats 16000000 in
theorem plays8 (o : Op) (hok : OpOk o) (hk : o.kind = 8) (h : Gf B w0 w ds es L) (hd : ds[i]? = some (b, S)) (he : es[i]? = some (r, S)) :
    Calls Try.prog 13 #[.pointer (some ⟨b, 0, none⟩), .pointer (some ⟨r, 0, none⟩), .agg #[.int .i64 o.on, .int .i64 o.kind, .int .i64 o.a, .int .i64 o.b, .string o.s]] w fun e w' => e = .returned (.bool true) ∧ ∃ S', Gf B w0 w' (ds.set i (b, S')) (es.set i (r, S')) L ∧ Kept L w w' := by
  have hW1 : Below w.heap.size w (w.alloc (.cells #[.int .i64 o.on, .int .i64 o.kind, .int .i64 o.a, .int .i64 o.b, .string o.s] 35)) := by go_grown
  have G1 := Lib.hid (h.prot hW1 (Nat.le_refl _) (show w.heap.size < (w.alloc (.cells #[.int .i64 o.on, .int .i64 o.kind, .int .i64 o.a, .int .i64 o.b, .string o.s] 35)).heap.size by rw [World.size_alloc]; omega))
  have A1 : Hid (Bk 35 (w.alloc (.cells #[.int .i64 o.on, .int .i64 o.kind, .int .i64 o.a, .int .i64 o.b, .string o.s] 35)) w.heap.size #[.int .i64 o.on, .int .i64 o.kind, .int .i64 o.a, .int .i64 o.b, .string o.s]) := Lib.hid (Bk.new rfl)
  have KW := Lib.hid (show Kept L w (w.alloc (.cells #[.int .i64 o.on, .int .i64 o.kind, .int .i64 o.a, .int .i64 o.b, .string o.s] 35)) from fun k hk => Below.heap_alloc w _ k (h.lt k hk))
  have HD := Lib.hid hd
  have HE := Lib.hid he
  obtain ⟨_, _, _, _, ha1, ha2, hb1, hb2, hsz⟩ := hok
  have HS := Lib.hid hsz
  have HAB := Lib.hid (And.intro (And.intro ha1 ha2) (And.intro hb1 hb2))
  clear hW1 h hd he hsz ha1 ha2 hb1 hb2
  have t0 : (o.kind == 0) = false := by simp [hk]
  have t1 : (o.kind == 1) = false := by simp [hk]
  have t2 : (o.kind == 2) = false := by simp [hk]
  have t3 : (o.kind == 3) = false := by simp [hk]
  have t4 : (o.kind == 4) = false := by simp [hk]
  have t5 : (o.kind == 5) = false := by simp [hk]
  have t6 : (o.kind == 6) = false := by simp [hk]
  have t8 : (o.kind == 8) = true := by simp [hk]
  clear hk
  have i1 := A1.out.cell 1
  simp only [List.getElem?_toArray, List.getElem?_cons_succ, List.getElem?_cons_zero] at i1
  have i2 := A1.out.cell 2
  simp only [List.getElem?_toArray, List.getElem?_cons_succ, List.getElem?_cons_zero] at i2
  obtain ⟨K, hC⟩ := G1.out.cf
  have HC := Lib.hid hC
  clear hC
  go_enter Try.func13, Try.ntmps13
  go_wp2_with fail
  refine (C_after HC.out HD.out o.a HAB.out.1.2).mono ?_
  rintro e w1 ⟨⟨v, rfl, g, rfl, hg, kg⟩, hb⟩
  have hgl : w.heap.size < g := by rw [World.size_alloc] at hg; omega
  have HGL := Lib.hid hg
  have B1 := Lib.hid hb
  have G2 := Lib.hid (G1.out.down hb)
  have A2 := Lib.hid (A1.out.below hb)
  have KG := Lib.hid kg
  clear hb kg hg HC i1 i2
  have i2 := A2.out.cell 2
  simp only [List.getElem?_toArray, List.getElem?_cons_succ, List.getElem?_cons_zero] at i2
  obtain ⟨uv, kp, R⟩ := G2.out.rk HE.out
  have RR := Lib.hid R
  clear R
  go_wp2_with fail
  refine (after39 r S uv kp o.a w1 RR.out).mono ?_
  rintro e w2 ⟨⟨v, rfl, g', rfl, hg', kg'⟩, hb⟩
  have KG2 := Lib.hid (KG.out.below hb)
  have KG2' := Lib.hid kg'
  have B2 := Lib.hid (B1.out.trans (hb.mono B1.out.size))
  clear hb kg' hg' KG B1 RR i2 A2 G2
  go_wp2_with fail
  refine (same_any g g' 0 0 2 2 _ _ w2 (KG2.out.cell 0) (KG2.out.cell 1) (KG2'.out.cell 0) (KG2'.out.cell 1)).mono ?_
  rintro e w3 ⟨rfl, hb⟩
  have KG3 := Lib.hid (KG2.out.below hb)
  have B3 := Lib.hid (B2.out.trans (hb.mono B2.out.size))
  clear hb KG2 KG2' B2
  have c0 := KG3.out.cell 0
  have c1 := KG3.out.cell 1
  have f0 := KG3.out.fro 0
  have f1 := KG3.out.fro 1
  simp only [List.getElem?_toArray, List.getElem?_cons_succ, List.getElem?_cons_zero] at c0 c1
  go_wp2_with fail
  refine wp_loop_rounds 3 ?_
  rw [rounds_succ]
  go_wp2_with fail
  rw [rounds_succ]
  go_wp2_with fail
  rw [rounds_succ]
  have K5 : Hid (Bk 9 ((w3.setCell ⟨g, 0, none⟩ (.string ⟨#[111, 118, 101, 114]⟩)).setCell ⟨g, 1, none⟩ (.string ⟨#[111, 118, 101, 114]⟩)) g #[.string ⟨#[111, 118, 101, 114]⟩, .string ⟨#[111, 118, 101, 114]⟩]) := Lib.hid (by
    have := Bk.same (i := 1) (v := .string ⟨#[111, 118, 101, 114]⟩) (Bk.same (i := 0) (v := .string ⟨#[111, 118, 101, 114]⟩) KG3.out)
    simpa using this)
  have B5 := Lib.hid ((B3.out.setCell (p := ⟨g, 0, none⟩) HGL.out (.string ⟨#[111, 118, 101, 114]⟩)).setCell (p := ⟨g, 1, none⟩) HGL.out (.string ⟨#[111, 118, 101, 114]⟩))
  clear c0 c1 f0 f1 KG3 B3
  generalize ((w3.setCell ⟨g, 0, none⟩ (.string ⟨#[111, 118, 101, 114]⟩)).setCell ⟨g, 1, none⟩ (.string ⟨#[111, 118, 101, 114]⟩)) = w5 at K5 B5 ⊢
  go_wp2_with (at_builtin; obtain ⟨g6, c6, w6, hrun, hb6⟩ := app_more _ _ g _ _ ⟨#[111, 118, 101, 114]⟩ ⟨#[111, 118, 101, 114]⟩ ⟨#[109, 111, 114, 101]⟩ (K5.out.alloc) (Bk.new rfl); refine Lib.wpList_append_run _ rfl _ _ 22 22 rfl _ _ rfl rfl _ w6 hrun ?_; clear hrun)
  have B6 := Lib.hid ((B5.out.alloc B5.out.size _).trans (hb6.mono (by have := B5.out.size; simp only [World.size_alloc] at this ⊢; omega)))
  clear hb6 K5 B5
  have G6 := Lib.hid (G1.out.down B6.out)
  have A6 := Lib.hid (A1.out.below B6.out)
  have K6 := Lib.hid (show Kept L (w.alloc (.cells #[.int .i64 o.on, .int .i64 o.kind, .int .i64 o.a, .int .i64 o.b, .string o.s] 35)) w6 from fun k hk => B6.out.block k (G1.out.lt k (by simp [hk])))
  refine p27 b r w.heap.size g6 c6 o.on o.kind o.a o.b o.s (S.after o.a) w6 A6.out (Lib.hid (G6.out.after HD.out o.a HAB.out.1.2)) (Lib.hid (G6.out.rafter HE.out o.a)) ?_
  intros
  rename_i w7 hb
  have G7 := Lib.hid (G6.out.down hb)
  have K7 := Lib.hid (show Kept L w6 w7 from fun k hk => hb.block k (G6.out.lt k (by simp [hk])))
  clear hb G6 A6
  go_wp2_with fail
  go_ret
  exact ⟨rfl, S, by rw [set_same HD.out, set_same HE.out]; exact G7.out.less (fun k hk => by simp [hk]), fun k hk => (K7.out k hk).trans ((K6.out k hk).trans (KW.out k hk))⟩
theorem plays_any (o : Op) (hok : OpOk o) (h : Gf B w0 w ds es L) (hd : ds[i]? = some (b, S)) (he : es[i]? = some (r, S)) :
    Calls Try.prog 13 #[.pointer (some ⟨b, 0, none⟩), .pointer (some ⟨r, 0, none⟩), .agg #[.int .i64 o.on, .int .i64 o.kind, .int .i64 o.a, .int .i64 o.b, .string o.s]] w fun e w' => e = .returned (.bool true) ∧ ∃ S', Gf B w0 w' (ds.set i (b, S')) (es.set i (r, S')) L ∧ Kept L w w' := by
  by_cases h0 : o.kind = 0
  · exact plays0 o hok h0 h hd he
  by_cases h1 : o.kind = 1
  · exact plays1 o hok h1 h hd he
  by_cases h2 : o.kind = 2
  · exact plays2 o hok h2 h hd he
  by_cases h3 : o.kind = 3
  · exact plays3 o hok h3 h hd he
  by_cases h4 : o.kind = 4
  · exact plays4 o hok h4 h hd he
  by_cases h5 : o.kind = 5
  · exact plays5 o hok h5 h hd he
  by_cases h6 : o.kind = 6
  · exact plays6 o hok h6 h hd he
  by_cases h8 : o.kind = 8
  · exact plays8 o hok h8 h hd he
  exact plays9 o hok ⟨h0, h1, h2, h3, h4, h5, h6, h8⟩ h hd he
end
end Go.Proofs.Ytekagnhablkggaa
