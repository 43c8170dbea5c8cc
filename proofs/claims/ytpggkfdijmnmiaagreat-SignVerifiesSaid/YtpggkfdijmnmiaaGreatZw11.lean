/- Inverses: by a power. No condition but that the number is be -/
import Derived.Test.YtpggkfdijmnmiaaGreatZw08
import Derived.Laws.Cover3
import Derived.LoopTactic
set_option linter.unusedVariables false
set_option linter.unusedSimpArgs false
set_option maxRecDepth 100000
namespace Go.Proofs.YtpggkfdijmnmiaaGreat
section
open Go.RowKit Limbs
noncomputable def ops19 (n:Nat):Array Oper:=(Tryz.f156.body.bind fun c=>findR c n).getD #[]
noncomputable def ops15 (n:Nat):Array Oper:=(Tryz.f141.body.bind fun c=>findR c n).getD #[]
noncomputable def ops17 (n:Nat):Array Oper:=(Tryz.f73.body.bind fun c=>findR c n).getD #[]
theorem cell_alloc_old {w:World}{o:Obj}{g i:Nat}(h:g<w.heap.size): (w.alloc o).cell? ⟨g,i,none⟩=w.cell? ⟨g,i,none⟩:=
 ((Below.refl w.heap.size w).alloc (Nat.le_refl _) o).cell (p:=⟨g,i,none⟩) h
theorem Bk.all4 {w:World}{g:Nat}{x0 x1 x2 x3:Value}(h:Bk 24 w g #[x0,x1,x2,x3]): ((∀w',Below w.heap.size w w'→w'.cell? ⟨g,0,none⟩=some x0)∧(∀w',Below w.heap.size w w'→w'.cell? ⟨g,1,none⟩=some x1)∧(∀w',Below w.heap.size w w'→w'.cell? ⟨g,2,none⟩=some x2)∧(∀w',Below w.heap.size w w'→w'.cell? ⟨g,3,none⟩=some x3))∧(∀w' o,Below w.heap.size w w'→(w'.alloc o).cell? ⟨g,0,none⟩=some x0)∧(∀w' o,Below w.heap.size w w'→(w'.alloc o).cell? ⟨g,1,none⟩=some x1)∧(∀w' o,Below w.heap.size w w'→(w'.alloc o).cell? ⟨g,2,none⟩=some x2)∧(∀w' o,Below w.heap.size w w'→(w'.alloc o).cell? ⟨g,3,none⟩=some x3):=
 ⟨⟨fun _ hB=>(h.below hB).cell 0,fun _ hB=>(h.below hB).cell 1,fun _ hB=>(h.below hB).cell 2,fun _ hB=>(h.below hB).cell 3⟩,fun _ _ hB=>(h.below hB).alloc.cell 0,fun _ _ hB=>(h.below hB).alloc.cell 1,fun _ _ hB=>(h.below hB).alloc.cell 2,fun _ _ hB=>(h.below hB).alloc.cell 3⟩
theorem kp {W w':World}(hb:Below W.heap.size W w'): (∀g i,g<W.heap.size→w'.cell? ⟨g,i,none⟩=W.cell? ⟨g,i,none⟩)∧(∀g i,g<W.heap.size→w'.frozen? ⟨g,i,none⟩=W.frozen? ⟨g,i,none⟩):=
 ⟨fun g i h=>hb.cell (p:=⟨g,i,none⟩) h,fun g i h=>hb.frozen (p:=⟨g,i,none⟩) h⟩
set_option maxHeartbeats 16000000 in
theorem m3 (gl gM M l4 l5 l6 l7 r:Nat)(w:World)(hgl:gl<w.heap.size)(k4:w.cell? ⟨gl,4,none⟩=some (.int .u64 (l4:Int)))(k5:w.cell? ⟨gl,5,none⟩=some (.int .u64 (l5:Int)))(k6:w.cell? ⟨gl,6,none⟩=some (.int .u64 (l6:Int)))(k7:w.cell? ⟨gl,7,none⟩=some (.int .u64 (l7:Int)))(KM:Bk 24 w gM (cs4 M))(HQ:Hid (∀w,Calls Tryz.prog 132 #[.agg #[.int .u64 (l4:Int),.int .u64 (l5:Int),.int .u64 (l6:Int),.int .u64 (l7:Int)],nv M] w fun e w'=>e = .returned (nv r)∧Below w.heap.size w w'))
  {t0 t1 t2 t3 t4 t5 t6 t9 t10 t11 t12 t13 t14 t15 t16 t17 t18 t19 t20 t21 t22 t23 t24 t25 t26 t27 t28 t29 t30 t31 t32:Value} {ds:List Deferred} {K:Act→World→Prop} {Q:Exit→Act→World→Prop}
  (h:∀(x16 x17 x18 x19 x20:Value) (g:Nat) (w':World) (hb:Below w.heap.size w w') (hg:w.heap.size≤g) (hk:Bk 24 w' g (cs4 r)),K {tmps:=#[t0,t1,t2,t3,t4,t5,t6,.pointer (some ⟨gM,0,none⟩),.pointer (some ⟨gl,0,none⟩),.pointer (some ⟨g,0,none⟩),t10,t11,t12,t13,t14,t15,x16,x17,x18,x19,x20,t21,t22,t23,t24,t25,t26,t27,t28,t29,t30,t31,t32],defers:=ds} w') :
  (Code.region 3 (ops19 3) true).wp Tryz.prog (Exit.then K Q) {tmps:=#[t0,t1,t2,t3,t4,t5,t6,.pointer (some ⟨gM,0,none⟩),.pointer (some ⟨gl,0,none⟩),t9,t10,t11,t12,t13,t14,t15,t16,t17,t18,t19,t20,t21,t22,t23,t24,t25,t26,t27,t28,t29,t30,t31,t32],defers:=ds} w:=by
 simp only [ops19,findR,Tryz.f156,Option.bind_some,Option.or,Option.getD,Nat.reduceEqDiff,if_true,if_false,reduceIte];have HH:=Lib.hid h;clear h;refine Code.wp_mono (Q:=Exit.then K (fun _ _ _=>False)) (fun e a w h=>by cases e<;>first | exact h | exact h.elim) ?_;have hat:∀w,(Instr.arrayAt 24 (.slice (some ⟨gl,4,none⟩) 4 4)).run Tryz.prog w = .ok (.pointer (some ⟨gl,4,none⟩)) w:=fun w=>run_arrayAt w 24 22 4 _ 4 4 u24 (by decide)
 obtain⟨m0,m1,m2,m3⟩:=KM.cells;obtain⟨n0,n1,n2,n3⟩:=KM.cellsA;have z4:∀o,(w.alloc o).cell? ⟨gl,4,none⟩=some (.int .u64 (l4:Int)):=fun o=>by rw [← k4];exact cell_alloc_old hgl
 have z5:∀o,(w.alloc o).cell? ⟨gl,5,none⟩=some (.int .u64 (l5:Int)):=fun o=>by rw [← k5];exact cell_alloc_old hgl
 have z6:∀o,(w.alloc o).cell? ⟨gl,6,none⟩=some (.int .u64 (l6:Int)):=fun o=>by rw [← k6];exact cell_alloc_old hgl
 have z7:∀o,(w.alloc o).cell? ⟨gl,7,none⟩=some (.int .u64 (l7:Int)):=fun o=>by rw [← k7];exact cell_alloc_old hgl
 simp only [nv,num] at HQ
 go_region_law (go_simp;go_at_call 132;refine(keep w.heap.size w (HQ.out _) (by go_grown) (Nat.le_refl _)).mono ?_;rintro e w' ⟨rfl,hB,hb⟩;obtain⟨hc,hf⟩:=kp hb)
 all_goals have hs:=hB.size
 all_goals first
  |exact HH.out _ _ _ _ _ _ _ (by go_grown) hs (Bk.new rfl)
  |exact HH.out _ _ _ _ _ _ _ (by go_grown) (Nat.le_refl _) (Bk.put (Bk.below (Bk.drew (Bk.new rfl)) hb))
end
section
open Go.RowKit Go.Sort Limbs
open Go.Lib renaming hid→Φ
theorem Bk.regrown {t:TypeId}{w:World}{g:Nat}{cs:Array Value}(h:Bk t w g cs)(d:Nat)(os:Array Obj): Bk t (grow (redrawn w d) os) g cs:=h.below (below_regrown w d os)
theorem mod_step (x c l M:Nat): (x % M*c+l) % M=(x*c+l) % M:=by
 rw [Nat.add_mod,Nat.mul_mod,Nat.mod_mod,← Nat.mul_mod,← Nat.add_mod]
theorem mul_any (m:Int)(a b:Nat)(ha:a<W256)(hb:b<W256)(w:World):
  Calls Tryz.prog 156 #[.int .i64 m,nv a,nv b] w fun e w'=>e = .returned (nv (a*b % md m))∧Below w.heap.size w w':=by
 have hM:=md_or m;obtain⟨hMW,hM2,hM3,hMp⟩:=md_lt hM;have HM:=Φ (mod_any m);have HP:=Φ (product_nv a b ha hb);generalize md m=M at *;have HA:=Φ (And.intro hM (And.intro hMW (And.intro hM2 hMp)));obtain⟨ab,hab⟩:∃z,z=a*b:=⟨_,rfl⟩;rw [← hab] at HP ⊢;obtain⟨res,hres⟩:∃z,z=ab % M:=⟨_,rfl⟩;rw [← hres];have HRES:=Φ hres;clear hres hab hM hMW hM2 hM3 hMp ha hb;simp only [nv,num] at HP ⊢;have HPa:=HP;go_enter Tryz.func156,Tryz.ntmps156;go_wp2_with fail;refine(keep w.heap.size w (HM.out _) (by go_grown) (Nat.le_refl _)).mono ?_;rintro e w1 ⟨rfl,hb,hk⟩;have KA:Hid (Bk 24 w1 w.heap.size (cs4 a)):=Φ (Bk.below (Bk.alloc (Bk.alloc (Bk.new rfl))) hk);have KB:Hid (Bk 24 w1 (w.heap.size+1) (cs4 b)):=Φ (Bk.below (Bk.alloc (Bk.new (by simp))) hk);have KR:Hid (Bk 24 w1 (w.heap.size+1+1) cs0):=Φ (Bk.below (Bk.new (by simp)) hk);have HB:=Φ hb;clear hk hb HM;obtain⟨i0,i1,i2,i3⟩:=KA.out.cellsA;obtain⟨j0,j1,j2,j3⟩:=KB.out.cellsA;simp only [nv,num];go_wp2_with fail;refine(keep w.heap.size w (HP.out _) (by have hb:=HB.out;have hs:=hb.size;go_grown) (Nat.le_refl _)).mono ?_;rintro e w2 ⟨⟨l0,l1,l2,l3,l4,l5,l6,l7,hl,hh,he,rfl⟩,hb,hk⟩;have K2R:Hid (Bk 24 w2 (w.heap.size+1+1) cs0):=Φ (Bk.below (Bk.alloc KR.out) hk);have K2M:Hid (Bk 24 w2 w1.heap.size (cs4 M)):=Φ (Bk.below (Bk.new rfl) hk);have HL:=Φ hl;have HH:=Φ hh;have HE:=Φ he;have HB2:=Φ hb;clear hk hb hl hh he i0 i1 i2 i3 j0 j1 j2 j3 KA KB KR HP;unfold num8;go_wp2_with fail;have KL:=Φ (Bk.new (t:=208) (w:=w2) (cs:=#[.int .u64 (l0:Int),.int .u64 (l1:Int),.int .u64 (l2:Int),.int .u64 (l3:Int),.int .u64 (l4:Int),.int .u64 (l5:Int),.int .u64 (l6:Int),.int .u64 (l7:Int)]) rfl);have K3R:=Φ (Bk.alloc (o:= .cells #[.int .u64 (l0:Int),.int .u64 (l1:Int),.int .u64 (l2:Int),.int .u64 (l3:Int),.int .u64 (l4:Int),.int .u64 (l5:Int),.int .u64 (l6:Int),.int .u64 (l7:Int)] 208) K2R.out);have K3M:=Φ (Bk.alloc (o:= .cells #[.int .u64 (l0:Int),.int .u64 (l1:Int),.int .u64 (l2:Int),.int .u64 (l3:Int),.int .u64 (l4:Int),.int .u64 (l5:Int),.int .u64 (l6:Int),.int .u64 (l7:Int)] 208) K2M.out);have HB3:Hid (Below w.heap.size w (w2.alloc (.cells #[.int .u64 (l0:Int),.int .u64 (l1:Int),.int .u64 (l2:Int),.int .u64 (l3:Int),.int .u64 (l4:Int),.int .u64 (l5:Int),.int .u64 (l6:Int),.int .u64 (l7:Int)] 208))):=Φ (by have hb:=HB2.out;have hs:=hb.size;go_grown);clear K2R K2M HB2 HB;generalize (w2.alloc (.cells #[.int .u64 (l0:Int),.int .u64 (l1:Int),.int .u64 (l2:Int),.int .u64 (l3:Int),.int .u64 (l4:Int),.int .u64 (l5:Int),.int .u64 (l6:Int),.int .u64 (l7:Int)] 208))=W at KL K3R K3M HB3 ⊢;generalize w2.heap.size=gl at KL ⊢;generalize w1.heap.size=gM at K3M ⊢;have hgl:=KL.out.lt;obtain⟨R0,hR0⟩:∃z,z=v4 l4 l5 l6 l7 % M:=⟨_,rfl⟩;have HLE:=Φ (show ∀w,Calls Tryz.prog 132 #[.agg #[.int .u64 (l4:Int),.int .u64 (l5:Int),.int .u64 (l6:Int),.int .u64 (l7:Int)],nv M] w fun e w'=>e = .returned (nv R0)∧Below w.heap.size w w' from fun w=>by
  have h8:=v4_lt HH.out.1 HH.out.2.1 HH.out.2.2.1 HH.out.2.2.2
  have:=left_any (v4 l4 l5 l6 l7) M h8 HA.out.2.1 (by have:=HA.out.2.2.1;omega) w
  rw [← nv_v4 HH.out.1 HH.out.2.1 HH.out.2.2.1 HH.out.2.2.2,← hR0] at this;exact this)
 have HR0:=Φ hR0;clear hR0;refine m3 gl gM M l4 l5 l6 l7 R0 W hgl (KL.out.cell 4) (KL.out.cell 5) (KL.out.cell 6) (KL.out.cell 7) K3M.out HLE ?_;intro _ _ _ _ _ g9 wq hb hg hk;have K4L:=Φ (KL.out.below hb);have K4R:=Φ (K3R.out.below hb);have K4M:=Φ (K3M.out.below hb);have K49:=Φ hk;have HNE:Hid (gl≠g9∧w.heap.size+1+1≠g9∧gM≠g9∧w.heap.size≤g9):=Φ ⟨by omega,by have:=K3R.out.lt;omega,by have:=K3M.out.lt;omega,by have:=HB3.out.size;omega⟩;have HB4:=Φ (HB3.out.trans (hb.mono HB3.out.size));clear KL K3R K3M HB3 hgl HLE hb hg hk;generalize hgR:w.heap.size+1+1=gR at *;go_wp2_with fail;refine wp_loop_rounds 5 ?_;rw [rounds_succ];go_wp2_with fail;obtain⟨R1,hR1⟩:∃z,z=(R0*18446744073709551616+l3) % M:=⟨_,rfl⟩;have HC0:=Φ (show ∀w,Calls Tryz.prog 130 #[.agg (cs4 R0),.int .u64 (l3:Int),.agg (cs4 M)] w fun e w'=>e = .returned (nv R1)∧Below w.heap.size w w' from fun w=>by
  have hp:0<M:=by have:=HA.out.2.2.2;omega
  have:=behind_any R0 l3 M HA.out.1 (by rw [HR0.out];exact Nat.mod_lt _ hp) HL.out.2.2.2 w
  rw [← hR1] at this;exact this)
 have HR1:=Φ hR1;clear hR1;have q3:∀d os,(grow (redrawn wq d) os).cell? ⟨gl,3,none⟩=some (.int .u64 (l3:Int)):=fun d os=>(K4L.out.regrown d os).cell 3
 refine wp_region_below_tail 7 mixed (by kernel_rfl) ?_;simp only [List.take_succ_cons,List.take_zero,List.drop_succ_cons,List.drop_zero];refine wpQuiet_load_row rfl 24 (.tmp 9) rfl g9 rfl 24 (cs4 R0) (0,0) _ (fun w' hw'=>heap_regrown K49.out hw') u24 rfl i24 ?_
 quiet_step (fail)
 iterate 3 go_big_quiet_step (fail)
 refine wpQuiet_load_row rfl 24 (.tmp 7) rfl gM rfl 24 (cs4 M) (0,0) _ (fun w' hw'=>heap_regrown K4M.out hw') u24 rfl i24 ?_
 quiet_step (exact qg HC0.out)
 refine wpQuiet_nil ?_;intro _ hw';obtain⟨⟨dq,osq⟩,hw''⟩:=hw';subst hw'';have L4L:=Φ (K4L.out.regrown dq osq);have L4R:=Φ (K4R.out.regrown dq osq);have L4M:=Φ (K4M.out.regrown dq osq);have L49:=Φ (K49.out.regrown dq osq);have HB5:=Φ (HB4.out.trans ((below_regrown wq dq osq).mono HB4.out.size));clear K4L K4R K4M K49 HB4 q3 HC0;generalize grow (redrawn wq dq) osq=v0 at L4L L4R L4M L49 HB5 ⊢;obtain⟨f0,f1,f2,f3⟩:=L49.out.fros;obtain⟨c0,c1,c2,c3⟩:=L49.out.cells;simp only [nv,num,cs4] at c0 c1 c2 c3 ⊢;go_wp2_with fail;clear f0 f1 f2 f3 c0 c1 c2 c3;have K4L:Hid (Bk 208 ((((v0.setCell ⟨g9,0,none⟩ (υ R1 0)).setCell ⟨g9,1,none⟩ (υ R1 1)).setCell ⟨g9,2,none⟩ (υ R1 2)).setCell ⟨g9,3,none⟩ (υ R1 3)) gl #[.int .u64 (l0:Int),.int .u64 (l1:Int),.int .u64 (l2:Int),.int .u64 (l3:Int),.int .u64 (l4:Int),.int .u64 (l5:Int),.int .u64 (l6:Int),.int .u64 (l7:Int)]):=Φ (Bk.puto HNE.out.1 L4L.out);have K4R:Hid (Bk 24 ((((v0.setCell ⟨g9,0,none⟩ (υ R1 0)).setCell ⟨g9,1,none⟩ (υ R1 1)).setCell ⟨g9,2,none⟩ (υ R1 2)).setCell ⟨g9,3,none⟩ (υ R1 3)) gR cs0):=Φ (Bk.puto HNE.out.2.1 L4R.out);have K4M:Hid (Bk 24 ((((v0.setCell ⟨g9,0,none⟩ (υ R1 0)).setCell ⟨g9,1,none⟩ (υ R1 1)).setCell ⟨g9,2,none⟩ (υ R1 2)).setCell ⟨g9,3,none⟩ (υ R1 3)) gM (cs4 M)):=Φ (Bk.puto HNE.out.2.2.1 L4M.out);have K49:Hid (Bk 24 ((((v0.setCell ⟨g9,0,none⟩ (υ R1 0)).setCell ⟨g9,1,none⟩ (υ R1 1)).setCell ⟨g9,2,none⟩ (υ R1 2)).setCell ⟨g9,3,none⟩ (υ R1 3)) g9 (cs4 R1)):=Φ (Bk.put L49.out);have HB4:Hid (Below w.heap.size w ((((v0.setCell ⟨g9,0,none⟩ (υ R1 0)).setCell ⟨g9,1,none⟩ (υ R1 1)).setCell ⟨g9,2,none⟩ (υ R1 2)).setCell ⟨g9,3,none⟩ (υ R1 3))):=Φ (by have hb:=HB5.out;have h9:=HNE.out.2.2.2;go_grown);clear L4L L4R L4M L49 HB5;generalize ((((v0.setCell ⟨g9,0,none⟩ (υ R1 0)).setCell ⟨g9,1,none⟩ (υ R1 1)).setCell ⟨g9,2,none⟩ (υ R1 2)).setCell ⟨g9,3,none⟩ (υ R1 3))=wq1 at K4L K4R K4M K49 HB4 ⊢;rw [rounds_succ];go_wp2_with fail;obtain⟨R2,hR2⟩:∃z,z=(R1*18446744073709551616+l2) % M:=⟨_,rfl⟩;have HC1:=Φ (show ∀w,Calls Tryz.prog 130 #[.agg (cs4 R1),.int .u64 (l2:Int),.agg (cs4 M)] w fun e w'=>e = .returned (nv R2)∧Below w.heap.size w w' from fun w=>by
  have hp:0<M:=by have:=HA.out.2.2.2;omega
  have:=behind_any R1 l2 M HA.out.1 (by rw [HR1.out];exact Nat.mod_lt _ hp) HL.out.2.2.1 w
  rw [← hR2] at this;exact this)
 have HR2:=Φ hR2;clear hR2;have q2:∀d os,(grow (redrawn wq1 d) os).cell? ⟨gl,2,none⟩=some (.int .u64 (l2:Int)):=fun d os=>(K4L.out.regrown d os).cell 2
 refine wp_region_below_tail 7 mixed (by kernel_rfl) ?_;simp only [List.take_succ_cons,List.take_zero,List.drop_succ_cons,List.drop_zero];refine wpQuiet_load_row rfl 24 (.tmp 9) rfl g9 rfl 24 (cs4 R1) (0,0) _ (fun w' hw'=>heap_regrown K49.out hw') u24 rfl i24 ?_
 quiet_step (fail)
 iterate 3 go_big_quiet_step (fail)
 refine wpQuiet_load_row rfl 24 (.tmp 7) rfl gM rfl 24 (cs4 M) (0,0) _ (fun w' hw'=>heap_regrown K4M.out hw') u24 rfl i24 ?_
 quiet_step (exact qg HC1.out)
 refine wpQuiet_nil ?_;intro _ hw';obtain⟨⟨dq,osq⟩,hw''⟩:=hw';subst hw'';have L4L:=Φ (K4L.out.regrown dq osq);have L4R:=Φ (K4R.out.regrown dq osq);have L4M:=Φ (K4M.out.regrown dq osq);have L49:=Φ (K49.out.regrown dq osq);have HB5:=Φ (HB4.out.trans ((below_regrown wq1 dq osq).mono HB4.out.size));clear K4L K4R K4M K49 HB4 q2 HC1;generalize grow (redrawn wq1 dq) osq=v1 at L4L L4R L4M L49 HB5 ⊢;obtain⟨f0,f1,f2,f3⟩:=L49.out.fros;obtain⟨c0,c1,c2,c3⟩:=L49.out.cells;simp only [nv,num,cs4] at c0 c1 c2 c3 ⊢;go_wp2_with fail;clear f0 f1 f2 f3 c0 c1 c2 c3;have K4L:Hid (Bk 208 ((((v1.setCell ⟨g9,0,none⟩ (υ R2 0)).setCell ⟨g9,1,none⟩ (υ R2 1)).setCell ⟨g9,2,none⟩ (υ R2 2)).setCell ⟨g9,3,none⟩ (υ R2 3)) gl #[.int .u64 (l0:Int),.int .u64 (l1:Int),.int .u64 (l2:Int),.int .u64 (l3:Int),.int .u64 (l4:Int),.int .u64 (l5:Int),.int .u64 (l6:Int),.int .u64 (l7:Int)]):=Φ (Bk.puto HNE.out.1 L4L.out);have K4R:Hid (Bk 24 ((((v1.setCell ⟨g9,0,none⟩ (υ R2 0)).setCell ⟨g9,1,none⟩ (υ R2 1)).setCell ⟨g9,2,none⟩ (υ R2 2)).setCell ⟨g9,3,none⟩ (υ R2 3)) gR cs0):=Φ (Bk.puto HNE.out.2.1 L4R.out);have K4M:Hid (Bk 24 ((((v1.setCell ⟨g9,0,none⟩ (υ R2 0)).setCell ⟨g9,1,none⟩ (υ R2 1)).setCell ⟨g9,2,none⟩ (υ R2 2)).setCell ⟨g9,3,none⟩ (υ R2 3)) gM (cs4 M)):=Φ (Bk.puto HNE.out.2.2.1 L4M.out);have K49:Hid (Bk 24 ((((v1.setCell ⟨g9,0,none⟩ (υ R2 0)).setCell ⟨g9,1,none⟩ (υ R2 1)).setCell ⟨g9,2,none⟩ (υ R2 2)).setCell ⟨g9,3,none⟩ (υ R2 3)) g9 (cs4 R2)):=Φ (Bk.put L49.out);have HB4:Hid (Below w.heap.size w ((((v1.setCell ⟨g9,0,none⟩ (υ R2 0)).setCell ⟨g9,1,none⟩ (υ R2 1)).setCell ⟨g9,2,none⟩ (υ R2 2)).setCell ⟨g9,3,none⟩ (υ R2 3))):=Φ (by have hb:=HB5.out;have h9:=HNE.out.2.2.2;go_grown);clear L4L L4R L4M L49 HB5;generalize ((((v1.setCell ⟨g9,0,none⟩ (υ R2 0)).setCell ⟨g9,1,none⟩ (υ R2 1)).setCell ⟨g9,2,none⟩ (υ R2 2)).setCell ⟨g9,3,none⟩ (υ R2 3))=wq2 at K4L K4R K4M K49 HB4 ⊢;rw [rounds_succ];go_wp2_with fail;obtain⟨R3,hR3⟩:∃z,z=(R2*18446744073709551616+l1) % M:=⟨_,rfl⟩;have HC2:=Φ (show ∀w,Calls Tryz.prog 130 #[.agg (cs4 R2),.int .u64 (l1:Int),.agg (cs4 M)] w fun e w'=>e = .returned (nv R3)∧Below w.heap.size w w' from fun w=>by
  have hp:0<M:=by have:=HA.out.2.2.2;omega
  have:=behind_any R2 l1 M HA.out.1 (by rw [HR2.out];exact Nat.mod_lt _ hp) HL.out.2.1 w
  rw [← hR3] at this;exact this)
 have HR3:=Φ hR3;clear hR3;have q1:∀d os,(grow (redrawn wq2 d) os).cell? ⟨gl,1,none⟩=some (.int .u64 (l1:Int)):=fun d os=>(K4L.out.regrown d os).cell 1
 refine wp_region_below_tail 7 mixed (by kernel_rfl) ?_;simp only [List.take_succ_cons,List.take_zero,List.drop_succ_cons,List.drop_zero];refine wpQuiet_load_row rfl 24 (.tmp 9) rfl g9 rfl 24 (cs4 R2) (0,0) _ (fun w' hw'=>heap_regrown K49.out hw') u24 rfl i24 ?_
 quiet_step (fail)
 iterate 3 go_big_quiet_step (fail)
 refine wpQuiet_load_row rfl 24 (.tmp 7) rfl gM rfl 24 (cs4 M) (0,0) _ (fun w' hw'=>heap_regrown K4M.out hw') u24 rfl i24 ?_
 quiet_step (exact qg HC2.out)
 refine wpQuiet_nil ?_;intro _ hw';obtain⟨⟨dq,osq⟩,hw''⟩:=hw';subst hw'';have L4L:=Φ (K4L.out.regrown dq osq);have L4R:=Φ (K4R.out.regrown dq osq);have L4M:=Φ (K4M.out.regrown dq osq);have L49:=Φ (K49.out.regrown dq osq);have HB5:=Φ (HB4.out.trans ((below_regrown wq2 dq osq).mono HB4.out.size));clear K4L K4R K4M K49 HB4 q1 HC2;generalize grow (redrawn wq2 dq) osq=v2 at L4L L4R L4M L49 HB5 ⊢;obtain⟨f0,f1,f2,f3⟩:=L49.out.fros;obtain⟨c0,c1,c2,c3⟩:=L49.out.cells;simp only [nv,num,cs4] at c0 c1 c2 c3 ⊢;go_wp2_with fail;clear f0 f1 f2 f3 c0 c1 c2 c3;have K4L:Hid (Bk 208 ((((v2.setCell ⟨g9,0,none⟩ (υ R3 0)).setCell ⟨g9,1,none⟩ (υ R3 1)).setCell ⟨g9,2,none⟩ (υ R3 2)).setCell ⟨g9,3,none⟩ (υ R3 3)) gl #[.int .u64 (l0:Int),.int .u64 (l1:Int),.int .u64 (l2:Int),.int .u64 (l3:Int),.int .u64 (l4:Int),.int .u64 (l5:Int),.int .u64 (l6:Int),.int .u64 (l7:Int)]):=Φ (Bk.puto HNE.out.1 L4L.out);have K4R:Hid (Bk 24 ((((v2.setCell ⟨g9,0,none⟩ (υ R3 0)).setCell ⟨g9,1,none⟩ (υ R3 1)).setCell ⟨g9,2,none⟩ (υ R3 2)).setCell ⟨g9,3,none⟩ (υ R3 3)) gR cs0):=Φ (Bk.puto HNE.out.2.1 L4R.out);have K4M:Hid (Bk 24 ((((v2.setCell ⟨g9,0,none⟩ (υ R3 0)).setCell ⟨g9,1,none⟩ (υ R3 1)).setCell ⟨g9,2,none⟩ (υ R3 2)).setCell ⟨g9,3,none⟩ (υ R3 3)) gM (cs4 M)):=Φ (Bk.puto HNE.out.2.2.1 L4M.out);have K49:Hid (Bk 24 ((((v2.setCell ⟨g9,0,none⟩ (υ R3 0)).setCell ⟨g9,1,none⟩ (υ R3 1)).setCell ⟨g9,2,none⟩ (υ R3 2)).setCell ⟨g9,3,none⟩ (υ R3 3)) g9 (cs4 R3)):=Φ (Bk.put L49.out);have HB4:Hid (Below w.heap.size w ((((v2.setCell ⟨g9,0,none⟩ (υ R3 0)).setCell ⟨g9,1,none⟩ (υ R3 1)).setCell ⟨g9,2,none⟩ (υ R3 2)).setCell ⟨g9,3,none⟩ (υ R3 3))):=Φ (by have hb:=HB5.out;have h9:=HNE.out.2.2.2;go_grown);clear L4L L4R L4M L49 HB5;generalize ((((v2.setCell ⟨g9,0,none⟩ (υ R3 0)).setCell ⟨g9,1,none⟩ (υ R3 1)).setCell ⟨g9,2,none⟩ (υ R3 2)).setCell ⟨g9,3,none⟩ (υ R3 3))=wq3 at K4L K4R K4M K49 HB4 ⊢;rw [rounds_succ];go_wp2_with fail;obtain⟨R4,hR4⟩:∃z,z=(R3*18446744073709551616+l0) % M:=⟨_,rfl⟩;have HC3:=Φ (show ∀w,Calls Tryz.prog 130 #[.agg (cs4 R3),.int .u64 (l0:Int),.agg (cs4 M)] w fun e w'=>e = .returned (nv R4)∧Below w.heap.size w w' from fun w=>by
  have hp:0<M:=by have:=HA.out.2.2.2;omega
  have:=behind_any R3 l0 M HA.out.1 (by rw [HR3.out];exact Nat.mod_lt _ hp) HL.out.1 w
  rw [← hR4] at this;exact this)
 have HR4:=Φ hR4;clear hR4;have q0:∀d os,(grow (redrawn wq3 d) os).cell? ⟨gl,0,none⟩=some (.int .u64 (l0:Int)):=fun d os=>(K4L.out.regrown d os).cell 0
 refine wp_region_below_tail 7 mixed (by kernel_rfl) ?_;simp only [List.take_succ_cons,List.take_zero,List.drop_succ_cons,List.drop_zero];refine wpQuiet_load_row rfl 24 (.tmp 9) rfl g9 rfl 24 (cs4 R3) (0,0) _ (fun w' hw'=>heap_regrown K49.out hw') u24 rfl i24 ?_
 quiet_step (fail)
 iterate 3 go_big_quiet_step (fail)
 refine wpQuiet_load_row rfl 24 (.tmp 7) rfl gM rfl 24 (cs4 M) (0,0) _ (fun w' hw'=>heap_regrown K4M.out hw') u24 rfl i24 ?_
 quiet_step (exact qg HC3.out)
 refine wpQuiet_nil ?_;intro _ hw';obtain⟨⟨dq,osq⟩,hw''⟩:=hw';subst hw'';have L4L:=Φ (K4L.out.regrown dq osq);have L4R:=Φ (K4R.out.regrown dq osq);have L4M:=Φ (K4M.out.regrown dq osq);have L49:=Φ (K49.out.regrown dq osq);have HB5:=Φ (HB4.out.trans ((below_regrown wq3 dq osq).mono HB4.out.size));clear K4L K4R K4M K49 HB4 q0 HC3;generalize grow (redrawn wq3 dq) osq=v3 at L4L L4R L4M L49 HB5 ⊢;obtain⟨f0,f1,f2,f3⟩:=L49.out.fros;obtain⟨c0,c1,c2,c3⟩:=L49.out.cells;simp only [nv,num,cs4] at c0 c1 c2 c3 ⊢;go_wp2_with fail;clear f0 f1 f2 f3 c0 c1 c2 c3;have K4L:Hid (Bk 208 ((((v3.setCell ⟨g9,0,none⟩ (υ R4 0)).setCell ⟨g9,1,none⟩ (υ R4 1)).setCell ⟨g9,2,none⟩ (υ R4 2)).setCell ⟨g9,3,none⟩ (υ R4 3)) gl #[.int .u64 (l0:Int),.int .u64 (l1:Int),.int .u64 (l2:Int),.int .u64 (l3:Int),.int .u64 (l4:Int),.int .u64 (l5:Int),.int .u64 (l6:Int),.int .u64 (l7:Int)]):=Φ (Bk.puto HNE.out.1 L4L.out);have K4R:Hid (Bk 24 ((((v3.setCell ⟨g9,0,none⟩ (υ R4 0)).setCell ⟨g9,1,none⟩ (υ R4 1)).setCell ⟨g9,2,none⟩ (υ R4 2)).setCell ⟨g9,3,none⟩ (υ R4 3)) gR cs0):=Φ (Bk.puto HNE.out.2.1 L4R.out);have K4M:Hid (Bk 24 ((((v3.setCell ⟨g9,0,none⟩ (υ R4 0)).setCell ⟨g9,1,none⟩ (υ R4 1)).setCell ⟨g9,2,none⟩ (υ R4 2)).setCell ⟨g9,3,none⟩ (υ R4 3)) gM (cs4 M)):=Φ (Bk.puto HNE.out.2.2.1 L4M.out);have K49:Hid (Bk 24 ((((v3.setCell ⟨g9,0,none⟩ (υ R4 0)).setCell ⟨g9,1,none⟩ (υ R4 1)).setCell ⟨g9,2,none⟩ (υ R4 2)).setCell ⟨g9,3,none⟩ (υ R4 3)) g9 (cs4 R4)):=Φ (Bk.put L49.out);have HB4:Hid (Below w.heap.size w ((((v3.setCell ⟨g9,0,none⟩ (υ R4 0)).setCell ⟨g9,1,none⟩ (υ R4 1)).setCell ⟨g9,2,none⟩ (υ R4 2)).setCell ⟨g9,3,none⟩ (υ R4 3))):=Φ (by have hb:=HB5.out;have h9:=HNE.out.2.2.2;go_grown);clear L4L L4R L4M L49 HB5;generalize ((((v3.setCell ⟨g9,0,none⟩ (υ R4 0)).setCell ⟨g9,1,none⟩ (υ R4 1)).setCell ⟨g9,2,none⟩ (υ R4 2)).setCell ⟨g9,3,none⟩ (υ R4 3))=wq4 at K4L K4R K4M K49 HB4 ⊢;rw [rounds_succ];have hgn:¬(g9=gR):=fun h=>HNE.out.2.1 h.symm
 have hgn2:¬(gR=g9):=HNE.out.2.1;obtain⟨f0,f1,f2,f3⟩:=K4R.out.fros;obtain⟨c0,c1,c2,c3⟩:=K49.out.cells;obtain⟨e0,e1,e2,e3⟩:=K4R.out.cells;go_wp2_with fail;have hres:R4=res:=by
  have k1:=HR1.out;rw [HR0.out,mod_step] at k1;have k2:=HR2.out;rw [k1,mod_step] at k2;have k3:=HR3.out;rw [k2,mod_step] at k3;have k4:=HR4.out;rw [k3,mod_step] at k4;rw [HRES.out,← HE.out,k4]
  congr 1
  unfold v4 W256;omega
 subst hres;refine ret_cell rfl gR R4 rfl (Bk.put K4R.out) rfl ⟨rfl,?_⟩;have hb:=HB4.out;have hg:w.heap.size≤gR:=by omega
 go_grown
end
section
open Go.RowKit Limbs
open Go.Lib renaming hid→Φ
theorem bit_mod (x k:Nat)(hk:k<64): x % 18446744073709551616 / 2 ^ k % 2=x / 2 ^ k % 2:=by
 have h:=Nat.testBit_mod_two_pow x 64 k;rw [Nat.testBit_eq_decide_div_mod_eq,Nat.testBit_eq_decide_div_mod_eq] at h;simp only [hk,decide_true,Bool.true_and,decide_eq_decide] at h;have e:(2:Nat) ^ 64=18446744073709551616:=by decide
 rw [e] at h;omega
theorem lb_bit (e j k:Nat)(hj:j<4)(hk:k<64): lb e j / 2 ^ k % 2=e / 2 ^ (64*j+k) % 2:=by
 have h:j=0∨j=1∨j=2∨j=3:=by omega
 have p (n:Nat):e / 2 ^ n / 2 ^ k=e / 2 ^ (n+k):=by rw [Nat.div_div_eq_div_mul,Nat.pow_add]
 rcases h with rfl | rfl | rfl | rfl
 ·show e % 18446744073709551616 / 2 ^ k % 2=_
  rw [bit_mod _ _ hk];simp
 ·show e / 18446744073709551616 % 18446744073709551616 / 2 ^ k % 2=_
  rw [bit_mod _ _ hk];exact congrArg (· % 2) (p 64)
 ·show e / 340282366920938463463374607431768211456 % 18446744073709551616 / 2 ^ k % 2=_
  rw [bit_mod _ _ hk];exact congrArg (· % 2) (p 128)
 ·show e / 6277101735386680763835789423207666416102355444464034512896 % 18446744073709551616 / 2 ^ k % 2=_
  rw [bit_mod _ _ hk];exact congrArg (· % 2) (p 192)
theorem pow_step (a e n M:Nat)(r:Nat)(hr:r=a ^ (e / 2 ^ (n+1)) % M): (e / 2 ^ n % 2=0→a ^ (e / 2 ^ n) % M=r*r % M)∧(e / 2 ^ n % 2=1→a ^ (e / 2 ^ n) % M=r*r % M*a % M):=by
 have h:e / 2 ^ (n+1)=e / 2 ^ n / 2:=by rw [Nat.pow_succ,Nat.div_div_eq_div_mul]
 rw [h] at hr;generalize e / 2 ^ n=x at *;have hs:a ^ (x / 2*2) % M=r*r % M:=by
  rw [Nat.pow_mul,hr,Nat.pow_two,← Nat.mul_mod]
 constructor
 ·intro h0;rw [← hs];congr 2;omega
 ·intro h1;have hm:=mod_step (a ^ (x / 2*2)) a 0 M;rw [hs] at hm;simp only [Nat.add_zero] at hm;rw [hm,← Nat.pow_succ];congr 2;omega
theorem shr_one (x k:Nat)(hx:x<18446744073709551616): bits .and .u64 ((x / 2 ^ k:Nat):Int) 1=((x / 2 ^ k % 2:Nat):Int):=by
 have h:=bits_and_u64_nat (x / 2 ^ k) 1 (Nat.lt_of_le_of_lt (Nat.div_le_self _ _) hx) (by decide);have e:(x / 2 ^ k)&&&1=x / 2 ^ k % 2:=Nat.and_one_is_mod _;rw [e] at h;exact h
set_option maxHeartbeats 16000000 in
theorem pow_any (m:Int)(a e:Nat)(ha:a<W256)(he:e<W256)(w:World):
  Calls Tryz.prog 183 #[.int .i64 m,nv a,nv e] w fun e' w'=>e' = .returned (nv (a ^ e % md m))∧Below w.heap.size w w':=by
 have hM:=md_or m;obtain⟨hMW,hM2,hM3,hMp⟩:=md_lt hM;have HM:=Φ (show ∀x y,x<W256→y<W256→∀w,Calls Tryz.prog 156 #[.int .i64 m,.agg (cs4 x),.agg (cs4 y)] w fun e w'=>e = .returned (nv (x*y % md m))∧Below w.heap.size w w' from fun x y hx hy w=>mul_any m x y hx hy w);generalize md m=M at *;have HA:=Φ (And.intro hMW (And.intro hMp (And.intro ha he)));obtain⟨res,hres⟩:∃z,z=a ^ e % M:=⟨_,rfl⟩;rw [← hres];have HRES:=Φ hres;have h1:Bk 24 (w.alloc (.cells #[.int .u64 1,.int .u64 0,.int .u64 0,.int .u64 0] 24)) w.heap.size (cs4 (a ^ (e / 2 ^ 256) % M)):=by
  have:e / 2 ^ 256=0:=Nat.div_eq_of_lt (by have:=he;unfold W256 at this;simpa using this)
  rw [this,Nat.pow_zero,Nat.mod_eq_of_lt (by omega)];exact Bk.new rfl
 have e1:cs4 (a ^ (e / 2 ^ 256) % M)=#[.int .u64 1,.int .u64 0,.int .u64 0,.int .u64 0]:=by
  have h2:=h1;unfold Bk at h2;rw [Go.heap_alloc_new] at h2
  injection h2 with h2
  injection h2 with h2
  exact h2.symm
 have HE1:=Φ e1;clear hres h1 e1 hM hMW hM2 hM3 hMp ha he;simp only [nv,num];go_enter Tryz.func183,Tryz.ntmps183;go_wp2_with fail;have KA:Hid (Bk 24 ((((w.alloc (.cells #[υ a 0,υ a 1,υ a 2,υ a 3] 24)).alloc (.cells #[υ e 0,υ e 1,υ e 2,υ e 3] 24)).alloc (.cells #[.int .u64 0,.int .u64 0,.int .u64 0,.int .u64 0] 24)).alloc (.cells #[.int .u64 1,.int .u64 0,.int .u64 0,.int .u64 0] 24)) w.heap.size (cs4 a)):=Φ (Bk.alloc (Bk.alloc (Bk.alloc (Bk.new rfl))));have KE:Hid (Bk 24 ((((w.alloc (.cells #[υ a 0,υ a 1,υ a 2,υ a 3] 24)).alloc (.cells #[υ e 0,υ e 1,υ e 2,υ e 3] 24)).alloc (.cells #[.int .u64 0,.int .u64 0,.int .u64 0,.int .u64 0] 24)).alloc (.cells #[.int .u64 1,.int .u64 0,.int .u64 0,.int .u64 0] 24)) (w.heap.size+1) (cs4 e)):=Φ (Bk.alloc (Bk.alloc (Bk.new (by simp))));have KR:Hid (Bk 24 ((((w.alloc (.cells #[υ a 0,υ a 1,υ a 2,υ a 3] 24)).alloc (.cells #[υ e 0,υ e 1,υ e 2,υ e 3] 24)).alloc (.cells #[.int .u64 0,.int .u64 0,.int .u64 0,.int .u64 0] 24)).alloc (.cells #[.int .u64 1,.int .u64 0,.int .u64 0,.int .u64 0] 24)) (w.heap.size+1+1) cs0):=Φ (Bk.alloc (Bk.new (by simp)));have K7:Hid (Bk 24 ((((w.alloc (.cells #[υ a 0,υ a 1,υ a 2,υ a 3] 24)).alloc (.cells #[υ e 0,υ e 1,υ e 2,υ e 3] 24)).alloc (.cells #[.int .u64 0,.int .u64 0,.int .u64 0,.int .u64 0] 24)).alloc (.cells #[.int .u64 1,.int .u64 0,.int .u64 0,.int .u64 0] 24)) (w.heap.size+1+1+1) (cs4 (a ^ (e / 2 ^ 256) % M))):=Φ (by rw [HE1.out];exact Bk.new (by simp));have HB:Hid (Below w.heap.size w ((((w.alloc (.cells #[υ a 0,υ a 1,υ a 2,υ a 3] 24)).alloc (.cells #[υ e 0,υ e 1,υ e 2,υ e 3] 24)).alloc (.cells #[.int .u64 0,.int .u64 0,.int .u64 0,.int .u64 0] 24)).alloc (.cells #[.int .u64 1,.int .u64 0,.int .u64 0,.int .u64 0] 24))):=Φ (by go_grown);clear HE1;generalize ((((w.alloc (.cells #[υ a 0,υ a 1,υ a 2,υ a 3] 24)).alloc (.cells #[υ e 0,υ e 1,υ e 2,υ e 3] 24)).alloc (.cells #[.int .u64 0,.int .u64 0,.int .u64 0,.int .u64 0] 24)).alloc (.cells #[.int .u64 1,.int .u64 0,.int .u64 0,.int .u64 0] 24))=wr0 at KA KE KR K7 HB ⊢;obtain⟨gE,hgE⟩:∃z,z=w.heap.size+1:=⟨_,rfl⟩;obtain⟨gR,hgR⟩:∃z,z=w.heap.size+1+1:=⟨_,rfl⟩;obtain⟨g7,hg7⟩:∃z,z=w.heap.size+1+1+1:=⟨_,rfl⟩;rw [← hgE] at KE;rw [← hgR] at KR;rw [← hg7] at K7;rw [← hg7,← hgR,← hgE];obtain⟨gA,hgA⟩:∃z,z=w.heap.size:=⟨_,rfl⟩;rw [← hgA] at KA ⊢;have HNE:Hid (gA≠g7∧gE≠g7∧gR≠g7∧w.heap.size≤g7∧w.heap.size≤gR):=Φ ⟨by omega,by omega,by omega,by omega,by omega⟩;clear hgE hgR hg7 hgA;refine wp_loop_rounds 5 ?_;rw [rounds_succ];go_wp2_with fail
 go_loopw [14] (fun b wr=>∃k:Nat,k≤64∧b = .int .i64 (k:Int)∧Bk 24 wr gA (cs4 a)∧Bk 24 wr gE (cs4 e)∧Bk 24 wr gR cs0∧Bk 24 wr g7 (cs4 (a ^ (e / 2 ^ (256 - k)) % M))∧Below w.heap.size w wr) (fun b _=>64 - (intOf b).toNat)
 case atStart=>exact⟨0,Nat.zero_le _,rfl,KA.out,KE.out,KR.out,K7.out,HB.out⟩
 case round=>
  clear KA KE KR K7 HB;obtain⟨k,hk,rfl,ka,ke,kr,k7,hb⟩:=hrel;have KA:=Φ ka;have KE:=Φ ke;have KR:=Φ kr;have K7:=Φ k7;have HB:=Φ hb;clear ka ke kr k7 hb
  by_cases hlt:k<64
  ·obtain⟨R,hR⟩:∃z,z=a ^ (e / 2 ^ (256 - k)) % M:=⟨_,rfl⟩;rw [← hR] at K7;have hRW:R<W256:=by rw [hR];exact Nat.lt_trans (Nat.mod_lt _ (by have:=HA.out.2.1;omega)) HA.out.1
   have hc1:=HM.out R R hRW hRW;have hst:=pow_step a e (256 - (k+1)) M R (by rw [hR,show 256 - (k+1)+1=256 - k from by omega]);have hbt:=lb_bit e 3 (63 - k) (by decide) (by omega);rw [show 64*3+(63 - k)=256 - (k+1) from by omega] at hbt;rw [← hbt] at hst;have hsh:bits .and .u64 (((lb e 3:Nat):Int) / 2 ^ (63 - k)) 1=((lb e 3 / 2 ^ (63 - k) % 2:Nat):Int):=by
    rw [← shr_one _ _ (lb_lt e 3)]
    congr 1
   have hR2:R*R % M<W256:=Nat.lt_trans (Nat.mod_lt _ (by have:=HA.out.2.1;omega)) HA.out.1;have hc2:=HM.out (R*R % M) a hR2 HA.out.2.2.1;obtain⟨RR,hRR⟩:∃z,z=R*R % M:=⟨_,rfl⟩;rw [← hRR] at hc1 hc2 hst;obtain⟨RA,hRA⟩:∃z,z=RR*a % M:=⟨_,rfl⟩;rw [← hRA] at hc2 hst;have HC:=Φ hc1;have HC2:=Φ hc2;clear hRR hRA hc1 hc2;have t1:(0:Int)≤63 - (k:Int):=by omega
   have n1:¬(gE=g7):=HNE.out.2.1;have n2:¬(g7=gE):=fun h=>HNE.out.2.1 h.symm
   have n3:¬(gA=g7):=HNE.out.1;have n4:¬(g7=gA):=fun h=>HNE.out.1 h.symm
   generalize hbv:lb e 3 / 2 ^ (63 - k) % 2=bt at *;have hb2:bt=0∨bt=1:=by omega
   clear hbv hbt hR hRW hR2;obtain⟨c0,c1,c2,c3⟩:=K7.out.cells;rcases hb2 with rfl | rfl
   ·have HST:=Φ (hst.1 rfl);clear hst;go_wp2_with fail;refine(keep w.heap.size w (HC.out _) HB.out (Nat.le_refl _)).mono ?_;rintro e' w2 ⟨rfl,hb,hk⟩;have KA2:=Φ (KA.out.below hk);have KE2:=Φ (KE.out.below hk);have KR2:=Φ (KR.out.below hk);have K72:=Φ (K7.out.below hk);have HB2:=Φ hb;clear KA KE KR K7 HB hb hk c0 c1 c2 c3 HC HC2;obtain⟨c0,c1,c2,c3⟩:=K72.out.cells;obtain⟨f0,f1,f2,f3⟩:=K72.out.fros;obtain⟨x0,x1,x2,x3⟩:=KE2.out.cells;simp only [nv,num];go_wp2_with fail
    go_roundw
    case rel=>exact⟨k+1,by omega,by go_num,Bk.puto HNE.out.1 KA2.out,Bk.puto HNE.out.2.1 KE2.out,Bk.puto HNE.out.2.2.1 KR2.out,by rw [HST.out];exact Bk.put K72.out,by have hb:=HB2.out;have h7:=HNE.out.2.2.2.1;go_grown⟩
    case measure=>simp [intOf];omega
   ·have HST:=Φ (hst.2 rfl);clear hst;go_wp2_with fail;refine(keep w.heap.size w (HC.out _) HB.out (Nat.le_refl _)).mono ?_;rintro e' w2 ⟨rfl,hb,hk⟩;have KA2:=Φ (KA.out.below hk);have KE2:=Φ (KE.out.below hk);have KR2:=Φ (KR.out.below hk);have K72:=Φ (K7.out.below hk);have HB2:=Φ hb;clear KA KE KR K7 HB hb hk c0 c1 c2 c3 HC;obtain⟨c0,c1,c2,c3⟩:=K72.out.cells;obtain⟨f0,f1,f2,f3⟩:=K72.out.fros;obtain⟨x0,x1,x2,x3⟩:=KE2.out.cells;obtain⟨y0,y1,y2,y3⟩:=KA2.out.cells;simp only [nv,num];go_wp2_with fail;refine(keep w.heap.size w (HC2.out _) (by have hb:=HB2.out;have h7:=HNE.out.2.2.2.1;go_grown) (Nat.le_refl _)).mono ?_;rintro e' w3 ⟨rfl,hb,hk⟩;have KA3:=Φ (Bk.below (Bk.puto HNE.out.1 KA2.out) hk);have KE3:=Φ (Bk.below (Bk.puto HNE.out.2.1 KE2.out) hk);have KR3:=Φ (Bk.below (Bk.puto HNE.out.2.2.1 KR2.out) hk);have K73:=Φ (Bk.below (Bk.put K72.out) hk);have HB3:=Φ hb;clear KA2 KE2 KR2 K72 HB2 hb hk c0 c1 c2 c3 f0 f1 f2 f3 x0 x1 x2 x3 y0 y1 y2 y3 HC2;obtain⟨c0,c1,c2,c3⟩:=K73.out.cells;obtain⟨f0,f1,f2,f3⟩:=K73.out.fros;simp only [nv,num];go_wp2_with fail
    go_roundw
    case rel=>exact⟨k+1,by omega,by go_num,Bk.puto HNE.out.1 KA3.out,Bk.puto HNE.out.2.1 KE3.out,Bk.puto HNE.out.2.2.1 KR3.out,by rw [HST.out];exact Bk.put K73.out,by have hb:=HB3.out;have h7:=HNE.out.2.2.2.1;go_grown⟩
    case measure=>simp [intOf];omega
  ·obtain rfl:k=64:=by omega
   clear hlt hk;rw [show 256 - 64=192 from rfl] at K7;go_wp2_with fail;rw [rounds_succ];go_wp2_with fail
   go_loopw [14] (fun b wr=>∃k:Nat,k≤64∧b = .int .i64 (k:Int)∧Bk 24 wr gA (cs4 a)∧Bk 24 wr gE (cs4 e)∧Bk 24 wr gR cs0∧Bk 24 wr g7 (cs4 (a ^ (e / 2 ^ (192 - k)) % M))∧Below w.heap.size w wr) (fun b _=>64 - (intOf b).toNat)
   case atStart=>exact⟨0,Nat.zero_le _,rfl,KA.out,KE.out,KR.out,K7.out,HB.out⟩
   case round=>
    clear KA KE KR K7 HB;obtain⟨k,hk,rfl,ka,ke,kr,k7,hb⟩:=hrel;have KA:=Φ ka;have KE:=Φ ke;have KR:=Φ kr;have K7:=Φ k7;have HB:=Φ hb;clear ka ke kr k7 hb
    by_cases hlt:k<64
    ·obtain⟨R,hR⟩:∃z,z=a ^ (e / 2 ^ (192 - k)) % M:=⟨_,rfl⟩;rw [← hR] at K7;have hRW:R<W256:=by rw [hR];exact Nat.lt_trans (Nat.mod_lt _ (by have:=HA.out.2.1;omega)) HA.out.1
     have hc1:=HM.out R R hRW hRW;have hst:=pow_step a e (192 - (k+1)) M R (by rw [hR,show 192 - (k+1)+1=192 - k from by omega]);have hbt:=lb_bit e 2 (63 - k) (by decide) (by omega);rw [show 64*2+(63 - k)=192 - (k+1) from by omega] at hbt;rw [← hbt] at hst;have hsh:bits .and .u64 (((lb e 2:Nat):Int) / 2 ^ (63 - k)) 1=((lb e 2 / 2 ^ (63 - k) % 2:Nat):Int):=by
      rw [← shr_one _ _ (lb_lt e 2)]
      congr 1
     have hR2:R*R % M<W256:=Nat.lt_trans (Nat.mod_lt _ (by have:=HA.out.2.1;omega)) HA.out.1;have hc2:=HM.out (R*R % M) a hR2 HA.out.2.2.1;obtain⟨RR,hRR⟩:∃z,z=R*R % M:=⟨_,rfl⟩;rw [← hRR] at hc1 hc2 hst;obtain⟨RA,hRA⟩:∃z,z=RR*a % M:=⟨_,rfl⟩;rw [← hRA] at hc2 hst;have HC:=Φ hc1;have HC2:=Φ hc2;clear hRR hRA hc1 hc2;have t1:(0:Int)≤63 - (k:Int):=by omega
     have n1:¬(gE=g7):=HNE.out.2.1;have n2:¬(g7=gE):=fun h=>HNE.out.2.1 h.symm
     have n3:¬(gA=g7):=HNE.out.1;have n4:¬(g7=gA):=fun h=>HNE.out.1 h.symm
     generalize hbv:lb e 2 / 2 ^ (63 - k) % 2=bt at *;have hb2:bt=0∨bt=1:=by omega
     clear hbv hbt hR hRW hR2;obtain⟨c0,c1,c2,c3⟩:=K7.out.cells;rcases hb2 with rfl | rfl
     ·have HST:=Φ (hst.1 rfl);clear hst;go_wp2_with fail;refine(keep w.heap.size w (HC.out _) HB.out (Nat.le_refl _)).mono ?_;rintro e' w2 ⟨rfl,hb,hk⟩;have KA2:=Φ (KA.out.below hk);have KE2:=Φ (KE.out.below hk);have KR2:=Φ (KR.out.below hk);have K72:=Φ (K7.out.below hk);have HB2:=Φ hb;clear KA KE KR K7 HB hb hk c0 c1 c2 c3 HC HC2;obtain⟨c0,c1,c2,c3⟩:=K72.out.cells;obtain⟨f0,f1,f2,f3⟩:=K72.out.fros;obtain⟨x0,x1,x2,x3⟩:=KE2.out.cells;simp only [nv,num];go_wp2_with fail
      go_roundw
      case rel=>exact⟨k+1,by omega,by go_num,Bk.puto HNE.out.1 KA2.out,Bk.puto HNE.out.2.1 KE2.out,Bk.puto HNE.out.2.2.1 KR2.out,by rw [HST.out];exact Bk.put K72.out,by have hb:=HB2.out;have h7:=HNE.out.2.2.2.1;go_grown⟩
      case measure=>simp [intOf];omega
     ·have HST:=Φ (hst.2 rfl);clear hst;go_wp2_with fail;refine(keep w.heap.size w (HC.out _) HB.out (Nat.le_refl _)).mono ?_;rintro e' w2 ⟨rfl,hb,hk⟩;have KA2:=Φ (KA.out.below hk);have KE2:=Φ (KE.out.below hk);have KR2:=Φ (KR.out.below hk);have K72:=Φ (K7.out.below hk);have HB2:=Φ hb;clear KA KE KR K7 HB hb hk c0 c1 c2 c3 HC;obtain⟨c0,c1,c2,c3⟩:=K72.out.cells;obtain⟨f0,f1,f2,f3⟩:=K72.out.fros;obtain⟨x0,x1,x2,x3⟩:=KE2.out.cells;obtain⟨y0,y1,y2,y3⟩:=KA2.out.cells;simp only [nv,num];go_wp2_with fail;refine(keep w.heap.size w (HC2.out _) (by have hb:=HB2.out;have h7:=HNE.out.2.2.2.1;go_grown) (Nat.le_refl _)).mono ?_;rintro e' w3 ⟨rfl,hb,hk⟩;have KA3:=Φ (Bk.below (Bk.puto HNE.out.1 KA2.out) hk);have KE3:=Φ (Bk.below (Bk.puto HNE.out.2.1 KE2.out) hk);have KR3:=Φ (Bk.below (Bk.puto HNE.out.2.2.1 KR2.out) hk);have K73:=Φ (Bk.below (Bk.put K72.out) hk);have HB3:=Φ hb;clear KA2 KE2 KR2 K72 HB2 hb hk c0 c1 c2 c3 f0 f1 f2 f3 x0 x1 x2 x3 y0 y1 y2 y3 HC2;obtain⟨c0,c1,c2,c3⟩:=K73.out.cells;obtain⟨f0,f1,f2,f3⟩:=K73.out.fros;simp only [nv,num];go_wp2_with fail
      go_roundw
      case rel=>exact⟨k+1,by omega,by go_num,Bk.puto HNE.out.1 KA3.out,Bk.puto HNE.out.2.1 KE3.out,Bk.puto HNE.out.2.2.1 KR3.out,by rw [HST.out];exact Bk.put K73.out,by have hb:=HB3.out;have h7:=HNE.out.2.2.2.1;go_grown⟩
      case measure=>simp [intOf];omega
    ·obtain rfl:k=64:=by omega
     clear hlt hk;rw [show 192 - 64=128 from rfl] at K7;go_wp2_with fail;rw [rounds_succ];go_wp2_with fail
     go_loopw [14] (fun b wr=>∃k:Nat,k≤64∧b = .int .i64 (k:Int)∧Bk 24 wr gA (cs4 a)∧Bk 24 wr gE (cs4 e)∧Bk 24 wr gR cs0∧Bk 24 wr g7 (cs4 (a ^ (e / 2 ^ (128 - k)) % M))∧Below w.heap.size w wr) (fun b _=>64 - (intOf b).toNat)
     case atStart=>exact⟨0,Nat.zero_le _,rfl,KA.out,KE.out,KR.out,K7.out,HB.out⟩
     case round=>
      clear KA KE KR K7 HB;obtain⟨k,hk,rfl,ka,ke,kr,k7,hb⟩:=hrel;have KA:=Φ ka;have KE:=Φ ke;have KR:=Φ kr;have K7:=Φ k7;have HB:=Φ hb;clear ka ke kr k7 hb
      by_cases hlt:k<64
      ·obtain⟨R,hR⟩:∃z,z=a ^ (e / 2 ^ (128 - k)) % M:=⟨_,rfl⟩;rw [← hR] at K7;have hRW:R<W256:=by rw [hR];exact Nat.lt_trans (Nat.mod_lt _ (by have:=HA.out.2.1;omega)) HA.out.1
       have hc1:=HM.out R R hRW hRW;have hst:=pow_step a e (128 - (k+1)) M R (by rw [hR,show 128 - (k+1)+1=128 - k from by omega]);have hbt:=lb_bit e 1 (63 - k) (by decide) (by omega);rw [show 64*1+(63 - k)=128 - (k+1) from by omega] at hbt;rw [← hbt] at hst;have hsh:bits .and .u64 (((lb e 1:Nat):Int) / 2 ^ (63 - k)) 1=((lb e 1 / 2 ^ (63 - k) % 2:Nat):Int):=by
        rw [← shr_one _ _ (lb_lt e 1)]
        congr 1
       have hR2:R*R % M<W256:=Nat.lt_trans (Nat.mod_lt _ (by have:=HA.out.2.1;omega)) HA.out.1;have hc2:=HM.out (R*R % M) a hR2 HA.out.2.2.1;obtain⟨RR,hRR⟩:∃z,z=R*R % M:=⟨_,rfl⟩;rw [← hRR] at hc1 hc2 hst;obtain⟨RA,hRA⟩:∃z,z=RR*a % M:=⟨_,rfl⟩;rw [← hRA] at hc2 hst;have HC:=Φ hc1;have HC2:=Φ hc2;clear hRR hRA hc1 hc2;have t1:(0:Int)≤63 - (k:Int):=by omega
       have n1:¬(gE=g7):=HNE.out.2.1;have n2:¬(g7=gE):=fun h=>HNE.out.2.1 h.symm
       have n3:¬(gA=g7):=HNE.out.1;have n4:¬(g7=gA):=fun h=>HNE.out.1 h.symm
       generalize hbv:lb e 1 / 2 ^ (63 - k) % 2=bt at *;have hb2:bt=0∨bt=1:=by omega
       clear hbv hbt hR hRW hR2;obtain⟨c0,c1,c2,c3⟩:=K7.out.cells;rcases hb2 with rfl | rfl
       ·have HST:=Φ (hst.1 rfl);clear hst;go_wp2_with fail;refine(keep w.heap.size w (HC.out _) HB.out (Nat.le_refl _)).mono ?_;rintro e' w2 ⟨rfl,hb,hk⟩;have KA2:=Φ (KA.out.below hk);have KE2:=Φ (KE.out.below hk);have KR2:=Φ (KR.out.below hk);have K72:=Φ (K7.out.below hk);have HB2:=Φ hb;clear KA KE KR K7 HB hb hk c0 c1 c2 c3 HC HC2;obtain⟨c0,c1,c2,c3⟩:=K72.out.cells;obtain⟨f0,f1,f2,f3⟩:=K72.out.fros;obtain⟨x0,x1,x2,x3⟩:=KE2.out.cells;simp only [nv,num];go_wp2_with fail
        go_roundw
        case rel=>exact⟨k+1,by omega,by go_num,Bk.puto HNE.out.1 KA2.out,Bk.puto HNE.out.2.1 KE2.out,Bk.puto HNE.out.2.2.1 KR2.out,by rw [HST.out];exact Bk.put K72.out,by have hb:=HB2.out;have h7:=HNE.out.2.2.2.1;go_grown⟩
        case measure=>simp [intOf];omega
       ·have HST:=Φ (hst.2 rfl);clear hst;go_wp2_with fail;refine(keep w.heap.size w (HC.out _) HB.out (Nat.le_refl _)).mono ?_;rintro e' w2 ⟨rfl,hb,hk⟩;have KA2:=Φ (KA.out.below hk);have KE2:=Φ (KE.out.below hk);have KR2:=Φ (KR.out.below hk);have K72:=Φ (K7.out.below hk);have HB2:=Φ hb;clear KA KE KR K7 HB hb hk c0 c1 c2 c3 HC;obtain⟨c0,c1,c2,c3⟩:=K72.out.cells;obtain⟨f0,f1,f2,f3⟩:=K72.out.fros;obtain⟨x0,x1,x2,x3⟩:=KE2.out.cells;obtain⟨y0,y1,y2,y3⟩:=KA2.out.cells;simp only [nv,num];go_wp2_with fail;refine(keep w.heap.size w (HC2.out _) (by have hb:=HB2.out;have h7:=HNE.out.2.2.2.1;go_grown) (Nat.le_refl _)).mono ?_;rintro e' w3 ⟨rfl,hb,hk⟩;have KA3:=Φ (Bk.below (Bk.puto HNE.out.1 KA2.out) hk);have KE3:=Φ (Bk.below (Bk.puto HNE.out.2.1 KE2.out) hk);have KR3:=Φ (Bk.below (Bk.puto HNE.out.2.2.1 KR2.out) hk);have K73:=Φ (Bk.below (Bk.put K72.out) hk);have HB3:=Φ hb;clear KA2 KE2 KR2 K72 HB2 hb hk c0 c1 c2 c3 f0 f1 f2 f3 x0 x1 x2 x3 y0 y1 y2 y3 HC2;obtain⟨c0,c1,c2,c3⟩:=K73.out.cells;obtain⟨f0,f1,f2,f3⟩:=K73.out.fros;simp only [nv,num];go_wp2_with fail
        go_roundw
        case rel=>exact⟨k+1,by omega,by go_num,Bk.puto HNE.out.1 KA3.out,Bk.puto HNE.out.2.1 KE3.out,Bk.puto HNE.out.2.2.1 KR3.out,by rw [HST.out];exact Bk.put K73.out,by have hb:=HB3.out;have h7:=HNE.out.2.2.2.1;go_grown⟩
        case measure=>simp [intOf];omega
      ·obtain rfl:k=64:=by omega
       clear hlt hk;rw [show 128 - 64=64 from rfl] at K7;go_wp2_with fail;rw [rounds_succ];go_wp2_with fail
       go_loopw [14] (fun b wr=>∃k:Nat,k≤64∧b = .int .i64 (k:Int)∧Bk 24 wr gA (cs4 a)∧Bk 24 wr gE (cs4 e)∧Bk 24 wr gR cs0∧Bk 24 wr g7 (cs4 (a ^ (e / 2 ^ (64 - k)) % M))∧Below w.heap.size w wr) (fun b _=>64 - (intOf b).toNat)
       case atStart=>exact⟨0,Nat.zero_le _,rfl,KA.out,KE.out,KR.out,K7.out,HB.out⟩
       case round=>
        clear KA KE KR K7 HB;obtain⟨k,hk,rfl,ka,ke,kr,k7,hb⟩:=hrel;have KA:=Φ ka;have KE:=Φ ke;have KR:=Φ kr;have K7:=Φ k7;have HB:=Φ hb;clear ka ke kr k7 hb
        by_cases hlt:k<64
        ·obtain⟨R,hR⟩:∃z,z=a ^ (e / 2 ^ (64 - k)) % M:=⟨_,rfl⟩;rw [← hR] at K7;have hRW:R<W256:=by rw [hR];exact Nat.lt_trans (Nat.mod_lt _ (by have:=HA.out.2.1;omega)) HA.out.1
         have hc1:=HM.out R R hRW hRW;have hst:=pow_step a e (64 - (k+1)) M R (by rw [hR,show 64 - (k+1)+1=64 - k from by omega]);have hbt:=lb_bit e 0 (63 - k) (by decide) (by omega);rw [show 64*0+(63 - k)=64 - (k+1) from by omega] at hbt;rw [← hbt] at hst;have hsh:bits .and .u64 (((lb e 0:Nat):Int) / 2 ^ (63 - k)) 1=((lb e 0 / 2 ^ (63 - k) % 2:Nat):Int):=by
          rw [← shr_one _ _ (lb_lt e 0)]
          congr 1
         have hR2:R*R % M<W256:=Nat.lt_trans (Nat.mod_lt _ (by have:=HA.out.2.1;omega)) HA.out.1;have hc2:=HM.out (R*R % M) a hR2 HA.out.2.2.1;obtain⟨RR,hRR⟩:∃z,z=R*R % M:=⟨_,rfl⟩;rw [← hRR] at hc1 hc2 hst;obtain⟨RA,hRA⟩:∃z,z=RR*a % M:=⟨_,rfl⟩;rw [← hRA] at hc2 hst;have HC:=Φ hc1;have HC2:=Φ hc2;clear hRR hRA hc1 hc2;have t1:(0:Int)≤63 - (k:Int):=by omega
         have n1:¬(gE=g7):=HNE.out.2.1;have n2:¬(g7=gE):=fun h=>HNE.out.2.1 h.symm
         have n3:¬(gA=g7):=HNE.out.1;have n4:¬(g7=gA):=fun h=>HNE.out.1 h.symm
         generalize hbv:lb e 0 / 2 ^ (63 - k) % 2=bt at *;have hb2:bt=0∨bt=1:=by omega
         clear hbv hbt hR hRW hR2;obtain⟨c0,c1,c2,c3⟩:=K7.out.cells;rcases hb2 with rfl | rfl
         ·have HST:=Φ (hst.1 rfl);clear hst;go_wp2_with fail;refine(keep w.heap.size w (HC.out _) HB.out (Nat.le_refl _)).mono ?_;rintro e' w2 ⟨rfl,hb,hk⟩;have KA2:=Φ (KA.out.below hk);have KE2:=Φ (KE.out.below hk);have KR2:=Φ (KR.out.below hk);have K72:=Φ (K7.out.below hk);have HB2:=Φ hb;clear KA KE KR K7 HB hb hk c0 c1 c2 c3 HC HC2;obtain⟨c0,c1,c2,c3⟩:=K72.out.cells;obtain⟨f0,f1,f2,f3⟩:=K72.out.fros;obtain⟨x0,x1,x2,x3⟩:=KE2.out.cells;simp only [nv,num];go_wp2_with fail
          go_roundw
          case rel=>exact⟨k+1,by omega,by go_num,Bk.puto HNE.out.1 KA2.out,Bk.puto HNE.out.2.1 KE2.out,Bk.puto HNE.out.2.2.1 KR2.out,by rw [HST.out];exact Bk.put K72.out,by have hb:=HB2.out;have h7:=HNE.out.2.2.2.1;go_grown⟩
          case measure=>simp [intOf];omega
         ·have HST:=Φ (hst.2 rfl);clear hst;go_wp2_with fail;refine(keep w.heap.size w (HC.out _) HB.out (Nat.le_refl _)).mono ?_;rintro e' w2 ⟨rfl,hb,hk⟩;have KA2:=Φ (KA.out.below hk);have KE2:=Φ (KE.out.below hk);have KR2:=Φ (KR.out.below hk);have K72:=Φ (K7.out.below hk);have HB2:=Φ hb;clear KA KE KR K7 HB hb hk c0 c1 c2 c3 HC;obtain⟨c0,c1,c2,c3⟩:=K72.out.cells;obtain⟨f0,f1,f2,f3⟩:=K72.out.fros;obtain⟨x0,x1,x2,x3⟩:=KE2.out.cells;obtain⟨y0,y1,y2,y3⟩:=KA2.out.cells;simp only [nv,num];go_wp2_with fail;refine(keep w.heap.size w (HC2.out _) (by have hb:=HB2.out;have h7:=HNE.out.2.2.2.1;go_grown) (Nat.le_refl _)).mono ?_;rintro e' w3 ⟨rfl,hb,hk⟩;have KA3:=Φ (Bk.below (Bk.puto HNE.out.1 KA2.out) hk);have KE3:=Φ (Bk.below (Bk.puto HNE.out.2.1 KE2.out) hk);have KR3:=Φ (Bk.below (Bk.puto HNE.out.2.2.1 KR2.out) hk);have K73:=Φ (Bk.below (Bk.put K72.out) hk);have HB3:=Φ hb;clear KA2 KE2 KR2 K72 HB2 hb hk c0 c1 c2 c3 f0 f1 f2 f3 x0 x1 x2 x3 y0 y1 y2 y3 HC2;obtain⟨c0,c1,c2,c3⟩:=K73.out.cells;obtain⟨f0,f1,f2,f3⟩:=K73.out.fros;simp only [nv,num];go_wp2_with fail
          go_roundw
          case rel=>exact⟨k+1,by omega,by go_num,Bk.puto HNE.out.1 KA3.out,Bk.puto HNE.out.2.1 KE3.out,Bk.puto HNE.out.2.2.1 KR3.out,by rw [HST.out];exact Bk.put K73.out,by have hb:=HB3.out;have h7:=HNE.out.2.2.2.1;go_grown⟩
          case measure=>simp [intOf];omega
        ·obtain rfl:k=64:=by omega
         clear hlt hk;rw [show 64 - 64=0 from rfl] at K7;go_wp2_with fail;rw [rounds_succ];obtain⟨c0,c1,c2,c3⟩:=K7.out.cells;obtain⟨f0,f1,f2,f3⟩:=KR.out.fros;obtain⟨x0,x1,x2,x3⟩:=KR.out.cells;generalize hfin:a ^ (e / 2 ^ 0) % M=fin at *;go_wp2_with fail;refine ret_cell rfl gR fin rfl (Bk.put KR.out) rfl ⟨by rw [← hfin,HRES.out,Nat.pow_zero,Nat.div_one];rfl,?_⟩;have hb:=HB.out;have h7:=HNE.out.2.2.2.2
         go_grown
end
section
open Go.RowKit
section
variable {P:Program} {ops:Array Oper} {md:Region.Mode} {Q:Exit→Act→World→Prop}
def left (l:Array Bool): Nat:=(l.toList.filter (fun x=>!x)).length
theorem left_set_list:∀(l:List Bool) (i:Nat) (h:i<l.length),l[i]=false→((l.set i true).filter (fun x=>!x)).length+1=(l.filter (fun x=>!x)).length
 |x::l,0,h,hx=>by
  have:x=false:=hx
  subst this;simp
 |x::l,i+1,h,hx=>by
  have ih:=left_set_list l i (by simpa using h) (by simpa using hx);cases x<;>simp [List.filter_cons]<;>omega
theorem left_set {l:Array Bool}{i:Nat}(h:l.getD i true=false): left (l.setIfInBounds i true)+1=left l:=by
 have hi:i<l.size:=by
  rcases Nat.lt_or_ge i l.size with h' | h'
  ·exact h'
  ·simp [Array.getElem?_eq_none h'] at h
 have hx:l[i]=false:=by simpa [hi] using h
 unfold left
 have:=left_set_list l.toList i (by simpa using hi) (by simpa using hx)
 simpa [Array.toList_setIfInBounds,hi] using this
theorem ready_left {l:Array Bool}{i:Nat}(h:i∈Region.ready md ops l): 0<left l:=by
 have:=left_set (mem_ready.1 h).1
 omega
theorem wpAny_inv {I:Array Bool→Act→World→Prop}(step:∀l a w,I l a w→∀i∈Region.ready md ops l,wpOp P ops Q i (fun a' w'=>I (l.setIfInBounds i true) a' w') a w)
  (fin:∀l a w,I l a w→Region.ready md ops l=[]→Q .normal a w):∀(fuel:Nat) (l:Array Bool) (a:Act) (w:World),left l≤fuel→I l a w→wpAny P md ops Q fuel l a w
 |0,l,a,w,hf,h=>by
  have h0:Region.ready md ops l=[]:=by
   rw [List.eq_nil_iff_forall_not_mem];intro i hi
   have:=ready_left hi
   omega
  exact⟨h0,fin l a w h h0⟩
 |fuel+1,l,a,w,hf,h=>by
  refine⟨fin l a w h,fun i hi=>?_⟩;have hl:=left_set (mem_ready.1 hi).1;exact wpOp_mono (fun a' w' h'=>wpAny_inv step fin fuel _ a' w' (by omega) h') (step l a w h i hi)
theorem wpOp_of {i:Nat}{o:Oper}{K:Act→World→Prop}{a:Act}{w:World}(hi:ops[i]?=some o)(hg:o.guard=none)(h:o.wp P a w K Q): wpOp P ops Q i K a w:=by
 unfold wpOp;simp only [hi];rw [if_pos (by simp [Region.wanted,hg])];exact .inl h
end
end
section
open Go.RowKit Limbs
open Go.Lib renaming hid→Φ
set_option maxHeartbeats 16000000 in
theorem inv_any (m:Int)(a:Nat)(ha:a<W256)(w:World):
  Calls Tryz.prog 157 #[.int .i64 m,nv a] w fun e w'=>e = .returned (if a % md m=0 then .tuple #[nv 0,.int .i64 61] else .tuple #[nv (a ^ (md m - 2) % md m),.int .i64 0])∧Below w.heap.size w w':=by
 have hM:=md_or m;obtain⟨hMW,hM2,hM3,hMp⟩:=md_lt hM;have HM:=Φ (mod_any m);have HP:=Φ (pow_any m a (md m - 2) ha (by omega));generalize md m=M at *;have hr:a % M<W256:=Nat.lt_trans (Nat.mod_lt _ (by omega)) hMW;have HL:=Φ (left_any a M ha hMW (by omega));have HMI:=Φ (minus_nv M 2 hMW (by decide));obtain⟨r,hrr⟩:∃z,z=a % M:=⟨_,rfl⟩;rw [← hrr] at HL hr ⊢;have HA:=Φ (And.intro hMW hMp);obtain⟨pw,hpw⟩:∃z,z=a ^ (M - 2) % M:=⟨_,rfl⟩;rw [← hpw] at HP ⊢;have HEQ:Hid (∀w,(Op.equalIn 10000 24 (.agg #[υ r 0,υ r 1,υ r 2,υ r 3]) (.agg #[.int .u64 0,.int .u64 0,.int .u64 0,.int .u64 0])).run Tryz.prog w = .ok (decide (r=0)) w):=Φ fun w=>eqN r 0 hr (by decide) w
 clear hM hMW hM2 hM3 hMp ha hrr hpw hr;obtain⟨RV,hRV⟩:∃z,z=if r=0 then Value.tuple #[nv 0,.int .i64 61] else .tuple #[nv pw,.int .i64 0]:=⟨_,rfl⟩
 rw [← hRV];have HRV:=Φ hRV;clear hRV;simp only [nv,num] at HL HP ⊢;go_enter Tryz.func157,Tryz.ntmps157;go_wp2_with fail;refine(keep w.heap.size w (HM.out _) (by go_grown) (Nat.le_refl _)).mono ?_;rintro e w1 ⟨rfl,hb,hk⟩;have KA:Hid (Bk 24 w1 w.heap.size (cs4 a)):=Φ (Bk.below (Bk.alloc (Bk.new rfl)) hk);have KR:Hid (Bk 24 w1 (w.heap.size+1) cs0):=Φ (Bk.below (Bk.new (by simp)) hk);have HB:=Φ hb;clear hk hb HM;obtain⟨i0,i1,i2,i3⟩:=KA.out.cellsA;simp only [nv,num];go_wp2_with fail;refine(keep w.heap.size w (HL.out _) (by have hb:=HB.out;have hs:=hb.size;go_grown) (Nat.le_refl _)).mono ?_;rintro e w2 ⟨rfl,hb,hk⟩;have K2A:=Φ (Bk.below (Bk.alloc KA.out) hk);have K2R:=Φ (Bk.below (Bk.alloc KR.out) hk);have K2M:Hid (Bk 24 w2 w1.heap.size (cs4 M)):=Φ (Bk.below (Bk.new rfl) hk);have HB2:=Φ hb;clear hk hb i0 i1 i2 i3 HL KA KR HB;have heq:=HEQ.out
 by_cases hz:r=0
 ·have h1:decide (r=0)=true:=by simp [hz]
  rw [h1] at heq;have HV:Hid (RV = .tuple #[nv 0,.int .i64 61]):=Φ (by rw [HRV.out,if_pos hz]);clear hz h1 HEQ HRV;obtain⟨j0,j1,j2,j3⟩:=K2R.out.cells;obtain⟨f0,f1,f2,f3⟩:=K2R.out.fros;go_wp2_with fail;refine ret_cell2 rfl (w.heap.size+1) 0 (.int .i64 61) rfl rfl (Bk.put K2R.out) rfl ⟨by rw [HV.out],?_⟩;have hb:=HB2.out
  go_grown
 ·have h1:decide (r=0)=false:=by simp [hz]
  rw [h1] at heq;have HV:Hid (RV = .tuple #[nv pw,.int .i64 0]):=Φ (by rw [HRV.out,if_neg hz]);clear hz h1 HEQ HRV;obtain⟨j0,j1,j2,j3⟩:=K2M.out.cells;go_wp2_with fail;refine(keep w.heap.size w (HMI.out _) HB2.out (Nat.le_refl _)).mono ?_;rintro e w3 ⟨⟨d,c,hd,hc,he,rfl⟩,hb,hk⟩;have hdM:d=M - 2:=by
   have h1:=HA.out;unfold W256 at *;omega
  subst hdM;have K3A:=Φ (K2A.out.below hk);have K3R:=Φ (K2R.out.below hk);have HB3:=Φ hb;clear hk hb hd hc he heq j0 j1 j2 j3 K2A K2R K2M HB2;obtain⟨i0,i1,i2,i3⟩:=K3A.out.cellsA;simp only [nv,num];go_wp2_with fail;refine(keep w.heap.size w (HP.out _) (by have hb:=HB3.out;have hs:=hb.size;go_grown) (Nat.le_refl _)).mono ?_;rintro e w4 ⟨rfl,hb,hk⟩;have K4R:=Φ (Bk.below (Bk.alloc K3R.out) hk);have HB4:=Φ hb;clear hk hb i0 i1 i2 i3;obtain⟨j0,j1,j2,j3⟩:=K4R.out.cells;obtain⟨f0,f1,f2,f3⟩:=K4R.out.fros;go_wp2_with fail;refine ret_cell2 rfl (w.heap.size+1) pw (.int .i64 0) rfl rfl (Bk.put K4R.out) rfl ⟨by rw [HV.out],?_⟩;have hb:=HB4.out
  go_grown
end
end Go.Proofs.YtpggkfdijmnmiaaGreat
