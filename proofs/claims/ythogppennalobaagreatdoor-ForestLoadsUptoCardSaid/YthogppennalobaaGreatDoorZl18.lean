/- The reader of a row The drawn regions of does. No condition. the document: Rises -/
import Derived.Test.YthogppennalobaaGreatDoorZl17
import Derived.Test.YthogppennalobaaGreatDoorZl02
import Derived.Test.YthogppennalobaaGreatDoorZl07
import Derived.Test.YthogppennalobaaGreatDoorZl10
import Derived.Test.YthogppennalobaaGreatDoorZl06
import Derived.Test.YthogppennalobaaGreatDoorZl12
set_option linter.unusedVariables false
set_option linter.unusedSimpArgs false
set_option maxRecDepth 100000
namespace Go.Proofs.YthogppennalobaaGreatDoor
open Go.RowKit Go.Sort Forest OwnR TxO Pl
theorem Nf.go {w0 W w':World}{f:Nat}{ns ns':Ns}{x x':Int}(h:Nf w0 W f ns x)(hf:FR w' f ns' x')(hc:Chf W w' f ns ns'): Nf w0 w' f ns' x':=by
 obtain⟨L,ho,hL⟩:=hc.only
 refine⟨hf,h.below.trans (ho.below h.below.size (fun q hq=>h.own q (hL q hq))),fun q hq=>?_,fun q hq=>?_⟩
 ·exact(hc.own q hq).elim (h.own q) (fun h2=>Nat.le_trans h.below.size h2)
 ·exact(hc.rows q hq).elim (h.rows q) (fun h2=>Nat.le_trans h.below.size h2)
theorem Chf.keep {W w':World}{f b:Nat}{ns ns':Ns}{x:Int}{t:TypeId}{cs:Array Value}(h:FR W f ns x)(hc:Chf W w' f ns ns')(hb:Bk t W b cs)(t1:t≠71)(t2:t≠72)(t5:t≠75): Bk t w' b cs:=by
 obtain⟨L,ho,hL⟩:=hc.only
 exact hb.only ho fun hq=>OwnsB.no h t1 t2 t5 hb (hL _ hq)
theorem mid_fx (s:Bs)(hs:s.length≤9)(p:Nat): Mid {fx0 with secret:=s,parent:=p}:=⟨by simp [fx0],by simp [fx0],by simp [fx0],by simp [fx0],by simp [fx0],by simp;omega,by simp [fx0]⟩
theorem rd_nil (w:World): Rd w (.slice none 0 0) []:=⟨none,0,rfl,fun i hi=>absurd hi (by simp)⟩
theorem fx_plant1 {W:World}{f:Nat}{ns:Ns}{x:Int}(h:FR W f ns x)(hl:ns.length≤9)(hG:Good (nodes ns) x): Calls Tryz.prog 26 #[.pointer (some ⟨f,0,none⟩),.agg #[.int .i64 0,.int .i64 1,.int .i64 0,.string ⟨#[117,58,97,110,110]⟩,.string ⟨#[]⟩,.string ⟨#[]⟩,.slice none 0 0,.int .i64 0,.int .i64 9,.bool false,.bool false,.slice none 0 0,.int .i64 0,.string ⟨#[115]⟩,.string ⟨#[]⟩],.int .i64 0] W fun e w'=>Ends W f ns x (.tuple #[.int .i64 (plantP (nodes ns) x 0 fx0 0).1,.int .i64 (plantP (nodes ns) x 0 fx0 0).2.1]) (plantP (nodes ns) x 0 fx0 0).2.2.1 (plantP (nodes ns) x 0 fx0 0).2.2.2 e w':=
 plant_call h (by omega) hG 0 0 fx0 (.slice none 0 0) (.slice none 0 0) (mid_fx [115] (by decide) 0) (rd_nil W) (rd_nil W) (fun _ q hq=>by cases hq) (fun _ q hq=>by cases hq) 0
theorem fx_plant2 {W:World}{f:Nat}{ns:Ns}{x:Int}(h:FR W f ns x)(hl:ns.length≤9)(hG:Good (nodes ns) x): Calls Tryz.prog 26 #[.pointer (some ⟨f,0,none⟩),.agg #[.int .i64 0,.int .i64 1,.int .i64 1,.string ⟨#[117,58,97,110,110]⟩,.string ⟨#[]⟩,.string ⟨#[]⟩,.slice none 0 0,.int .i64 0,.int .i64 9,.bool false,.bool false,.slice none 0 0,.int .i64 0,.string ⟨#[116]⟩,.string ⟨#[]⟩],.int .i64 0] W fun e w'=>Ends W f ns x (.tuple #[.int .i64 (plantP (nodes ns) x 1 fx1 0).1,.int .i64 (plantP (nodes ns) x 1 fx1 0).2.1]) (plantP (nodes ns) x 1 fx1 0).2.2.1 (plantP (nodes ns) x 1 fx1 0).2.2.2 e w':=
 plant_call h (by omega) hG 0 1 fx1 (.slice none 0 0) (.slice none 0 0) (mid_fx [116] (by decide) 1) (rd_nil W) (rd_nil W) (fun _ q hq=>by cases hq) (fun _ q hq=>by cases hq) 0
theorem len_nodes {ns:Ns}{l:List Nd}(h:nodes ns=l): ns.length=l.length:=by rw [← h];simp [nodes]
theorem Nf.aside {w0 W W':World}{f b:Nat}{ns:Ns}{x:Int}{cs:Array Value}(h:Nf w0 W f ns x)(hk:Bk 31 W b cs)(hb:w0.heap.size≤b)(ho:Only [b] W W'): Nf w0 W' f ns x:=by
 have hOwn:∀q,OwnsB W f ns q→q∉[b]:=fun q hq e=>by
  rw [List.mem_singleton] at e
  exact OwnsB.no h.fr (by decide) (by decide) (by decide) hk (e▸hq)
 refine⟨h.fr.apart ho (fun q hq h2=>hOwn q h2 hq) (fun q hq cs h=>by rw [List.mem_singleton] at hq;subst hq;exact bk_ne hk h (by decide) rfl),h.below.trans (ho.below h.below.size (fun q hq=>by rw [List.mem_singleton] at hq;omega)),fun q hq=>?_,fun q hq=>?_⟩
 ·exact h.own q (hq.same (ho.block f (OwnsB.lt h.fr (.inl rfl)) (hOwn f (.inl rfl))))
 ·exact h.rows q (hq.same fun k hk=>ho.block k.1 (OwnsB.lt h.fr (.inr (.inl ⟨k,hk,rfl⟩))) (hOwn k.1 (.inr (.inl ⟨k,hk,rfl⟩))))
theorem fx_rows:∀n∈[fK,fB],RowOk n:=by
 intro n hn
 rcases List.mem_cons.1 hn with rfl | hn
 ·exact⟨by decide,by unfold In64;decide,by decide,by decide,Nat.le_of_ble_eq_true (by kernel_rfl)⟩
 ·rw [List.mem_singleton] at hn;subst hn
  exact⟨by decide,by unfold In64;decide,by decide,by decide,Nat.le_of_ble_eq_true (by kernel_rfl)⟩
theorem fx_short:∀n∈[fK,fB],Short n:=by
 intro n hn
 rcases List.mem_cons.1 hn with rfl | hn
 ·exact⟨by decide,by decide,by decide,by decide,by decide,by decide,by decide,by simp [fK,fA],by simp [fK,fA]⟩
 ·rw [List.mem_singleton] at hn;subst hn
  exact⟨by decide,by decide,by decide,by decide,by decide,by decide,by decide,by simp [fB],by simp [fB]⟩
set_option maxHeartbeats 8000000 in
theorem fixed_any (w:World)(hT:Tb w)(hM:Mx w): Calls Tryz.prog 21 #[] w fun e w'=>e = .returned (.bool true)∧Below w.heap.size w w':=by
 have HT:=Lib.hid hT
 have HM:=Lib.hid hM
 clear hT hM
 have HNEW:=Lib.hid (new_nf w)
 unfold kpt at HNEW
 go_enter Tryz.func21,Tryz.ntmps21
 go_wp2_with fail
 refine HNEW.out.mono ?_
 rintro e w1 ⟨f,rfl,h1⟩
 have N1:=Lib.hid h1
 obtain⟨w2,hw2⟩:∃w2,w2=w1.alloc (.cells zeroN 31):=⟨_,rfl⟩
 have Z2:Hid (Bk 31 w2 w1.heap.size zeroN):=Lib.hid (by rw [hw2];exact Bk.new rfl)
 obtain⟨W,hW⟩:∃W,W=w2.setRow w1.heap.size #[.int .i64 0,.int .i64 1,.int .i64 0,.string ⟨#[117,58,97,110,110]⟩,.string ⟨#[]⟩,.string ⟨#[]⟩,.slice none 0 0,.int .i64 0,.int .i64 9,.bool false,.bool false,.slice none 0 0,.int .i64 0,.string ⟨#[115]⟩,.string ⟨#[]⟩]:=⟨_,rfl⟩
 obtain⟨b,hb⟩:∃b,b=w1.heap.size:=⟨_,rfl⟩
 have K3:Hid (Bk 31 W b #[.int .i64 0,.int .i64 1,.int .i64 0,.string ⟨#[117,58,97,110,110]⟩,.string ⟨#[]⟩,.string ⟨#[]⟩,.slice none 0 0,.int .i64 0,.int .i64 9,.bool false,.bool false,.slice none 0 0,.int .i64 0,.string ⟨#[115]⟩,.string ⟨#[]⟩]):=Lib.hid (by rw [hW,hb];exact Z2.out.row)
 have N3:Hid (Nf w W f [] 1):=Lib.hid (h1.down (by rw [hW,hw2];exact below_row (by go_grown) (Nat.le_refl _)))
 have HW2:=Lib.hid hw2
 have HWW:=Lib.hid hW
 have HBB:=Lib.hid hb
 have HBW:Hid (w.heap.size≤b):=Lib.hid (by rw [hb];exact h1.below.size)
 have HP1:Hid (Calls Tryz.prog 26 #[.pointer (some ⟨f,0,none⟩),.agg #[.int .i64 0,.int .i64 1,.int .i64 0,.string ⟨#[117,58,97,110,110]⟩,.string ⟨#[]⟩,.string ⟨#[]⟩,.slice none 0 0,.int .i64 0,.int .i64 9,.bool false,.bool false,.slice none 0 0,.int .i64 0,.string ⟨#[115]⟩,.string ⟨#[]⟩],.int .i64 0] W fun e w'=>Ends W f [] 1 (.tuple #[.int .i64 1,.int .i64 0]) [fA] 2 e w'):=Lib.hid (by
  have h:=fx_plant1 N3.out.fr (by simp) ⟨by decide,fun m hm=>by cases hm⟩
  rw [show nodes []=[] from rfl,fx_1] at h
  exact h)
 clear h1 HNEW N1 hw2 hW hb
 go_wp2_with (first | (have hw2:=HW2.out;unfold zeroN at hw2;rw [← hw2];clear hw2;refine wpList_put rfl 31 _ _ rfl w1.heap.size zeroN _ rfl rfl Z2.out i31 rfl (by simp [Value.oneCell']) ?_;rw [← HWW.out,← HBB.out]) | refine wpList_load_row rfl 31 _ rfl b rfl 31 _ (0,0) _ K3.out Tryz.underlying31 rfl i31 ?_)
 refine HP1.out.mono ?_
 rintro e w4 ⟨rfl,ns1,e1,f1,c1⟩
 have N4:Hid (Nf w w4 f ns1 2):=Lib.hid (N3.out.go f1 c1)
 have K4:Hid (Bk 31 w4 b #[.int .i64 0,.int .i64 1,.int .i64 0,.string ⟨#[117,58,97,110,110]⟩,.string ⟨#[]⟩,.string ⟨#[]⟩,.slice none 0 0,.int .i64 0,.int .i64 9,.bool false,.bool false,.slice none 0 0,.int .i64 0,.string ⟨#[115]⟩,.string ⟨#[]⟩]):=Lib.hid (c1.keep N3.out.fr K3.out (by decide) (by decide) (by decide))
 have E1:=Lib.hid e1
 have HP2:Hid (Calls Tryz.prog 26 #[.pointer (some ⟨f,0,none⟩),.agg #[.int .i64 0,.int .i64 1,.int .i64 0,.string ⟨#[117,58,97,110,110]⟩,.string ⟨#[]⟩,.string ⟨#[]⟩,.slice none 0 0,.int .i64 0,.int .i64 9,.bool false,.bool false,.slice none 0 0,.int .i64 0,.string ⟨#[115]⟩,.string ⟨#[]⟩],.int .i64 0] w4 fun e w'=>Ends w4 f ns1 2 (.tuple #[.int .i64 0,.int .i64 132]) [fA] 2 e w'):=Lib.hid (by
  have h:=fx_plant1 f1 (by rw [len_nodes e1];decide) (by rw [e1];exact⟨by decide,fun m hm=>by rw [List.mem_singleton] at hm;subst hm;decide⟩)
  rw [e1,fx_2] at h
  exact h)
 clear e1 f1 c1 HP1 N3 K3 Z2 HW2 HWW HBB
 go_wp2_with (refine wpList_load_row rfl 31 _ rfl b rfl 31 _ (0,0) _ K4.out Tryz.underlying31 rfl i31 ?_)
 refine HP2.out.mono ?_
 rintro e w5 ⟨rfl,ns2,e1,f1,c1⟩
 have N5:Hid (Nf w w5 f ns2 2):=Lib.hid (N4.out.go f1 c1)
 have K5:Hid (Bk 31 w5 b #[.int .i64 0,.int .i64 1,.int .i64 0,.string ⟨#[117,58,97,110,110]⟩,.string ⟨#[]⟩,.string ⟨#[]⟩,.slice none 0 0,.int .i64 0,.int .i64 9,.bool false,.bool false,.slice none 0 0,.int .i64 0,.string ⟨#[115]⟩,.string ⟨#[]⟩]):=Lib.hid (c1.keep N4.out.fr K4.out (by decide) (by decide) (by decide))
 have hOwn:∀q,OwnsB w5 f ns2 q→q≠b:=fun q hq e=>OwnsB.no f1 (by decide) (by decide) (by decide) K5.out (e▸hq)
 obtain⟨w6,hw6⟩:∃w6,w6=(w5.setCell ⟨b,13,none⟩ (.string ⟨#[116]⟩)).setCell ⟨b,2,none⟩ (.int .i64 1):=⟨_,rfl⟩
 have K6:Hid (Bk 31 w6 b #[.int .i64 0,.int .i64 1,.int .i64 1,.string ⟨#[117,58,97,110,110]⟩,.string ⟨#[]⟩,.string ⟨#[]⟩,.slice none 0 0,.int .i64 0,.int .i64 9,.bool false,.bool false,.slice none 0 0,.int .i64 0,.string ⟨#[116]⟩,.string ⟨#[]⟩]):=Lib.hid (by
  rw [hw6]
  exact Bk.same (i:=2) (v:= .int .i64 1) (Bk.same (i:=13) (v:= .string ⟨#[116]⟩) K5.out))
 have ho6:Only [b] w5 w6:=by
  rw [hw6]
  exact((Only.refl [b] w5).setCell _ (.inl (by simp)) _).setCell _ (.inl (by simp)) _
 have N6:Hid (Nf w w6 f ns2 2):=Lib.hid (N5.out.aside K5.out HBW.out ho6)
 have E2:=Lib.hid e1
 have HW6:=Lib.hid hw6
 have HP3:Hid (Calls Tryz.prog 26 #[.pointer (some ⟨f,0,none⟩),.agg #[.int .i64 0,.int .i64 1,.int .i64 1,.string ⟨#[117,58,97,110,110]⟩,.string ⟨#[]⟩,.string ⟨#[]⟩,.slice none 0 0,.int .i64 0,.int .i64 9,.bool false,.bool false,.slice none 0 0,.int .i64 0,.string ⟨#[116]⟩,.string ⟨#[]⟩],.int .i64 0] w6 fun e w'=>Ends w6 f ns2 2 (.tuple #[.int .i64 2,.int .i64 0]) [fA,fB] 3 e w'):=Lib.hid (by
  have h:=fx_plant2 N6.out.fr (by rw [len_nodes e1];decide) (by rw [e1];exact⟨by decide,fun m hm=>by rw [List.mem_singleton] at hm;subst hm;decide⟩)
  rw [e1,fx_3] at h
  exact h)
 have fz13:w5.frozen? ⟨b,13,none⟩=false:=K5.out.fro 13
 have fz2:(w5.setCell ⟨b,13,none⟩ (.string ⟨#[116]⟩)).frozen? ⟨b,2,none⟩=false:=(Bk.same (i:=13) (v:= .string ⟨#[116]⟩) K5.out).fro 2
 have cz13:w5.cell? ⟨b,13,none⟩=some (.string ⟨#[115]⟩):=K5.out.cell 13
 have cz2:(w5.setCell ⟨b,13,none⟩ (.string ⟨#[116]⟩)).cell? ⟨b,2,none⟩=some (.int .i64 0):=(Bk.same (i:=13) (v:= .string ⟨#[116]⟩) K5.out).cell 2
 clear e1 f1 c1 HP2 N4 K4 hw6 ho6 hOwn E1
 go_wp2_with (rw [← HW6.out];refine wpList_load_row rfl 31 _ rfl b rfl 31 _ (0,0) _ K6.out Tryz.underlying31 rfl i31 ?_)
 refine HP3.out.mono ?_
 rintro e w7 ⟨rfl,ns3,e1,f1,c1⟩
 have N7:Hid (Nf w w7 f ns3 3):=Lib.hid (N6.out.go f1 c1)
 have hl3:ns3.length≤1000000:=by rw [len_nodes e1];decide
 have HL8:Hid (Calls Tryz.prog 27 #[.pointer (some ⟨f,0,none⟩),.int .i64 2,.int .i64 8] w7 fun e w'=>e = .returned (.bool true)∧Below w7.heap.size w7 w'):=Lib.hid (by
  have h:=live_any f1 hl3 2 8
  rw [e1,fx_l8] at h
  exact h)
 have HL9:Hid (∀W,Below w7.heap.size w7 W→Calls Tryz.prog 27 #[.pointer (some ⟨f,0,none⟩),.int .i64 2,.int .i64 9] W fun e w'=>e = .returned (.bool false)∧Below W.heap.size W w'):=Lib.hid (fun W hb=>by
  have h:=live_any (f1.below hb) hl3 2 9
  rw [e1,fx_l9] at h
  exact h)
 have HPA:Hid (∀W,Below w7.heap.size w7 W→Calls Tryz.prog 29 #[.pointer (some ⟨f,0,none⟩),.int .i64 2] W fun e w'=>∃a c,e = .returned (.slice a 2 c)∧Below W.heap.size W w'):=Lib.hid (fun W hb=>by
  have h:=path_call (f1.below hb) hl3 2
  rw [e1] at h
  refine h.mono ?_
  rintro e w' ⟨v,rfl,hv⟩
  obtain⟨a,c,rfl⟩:=hv.shape
  rw [fx_path] at *
  exact⟨a,c,rfl,hv.2.1⟩)
 have HKI:Hid (∀W,Below w7.heap.size w7 W→Calls Tryz.prog 28 #[.pointer (some ⟨f,0,none⟩),.int .i64 1] W fun e w'=>Ends W f ns3 3 (.int .i64 0) [fK,fB] 3 e w'):=Lib.hid (fun W hb=>by
  have h:=kill_call (f1.below hb) hl3 1
  rw [e1,fx_k] at h
  exact h)
 clear HP3 N5 K5 fz13 fz2 cz13 cz2 HW6 E2 e1 f1 c1 hl3 K6 N6
 go_wp2_with fail
 refine HL8.out.mono ?_
 rintro e w8 ⟨rfl,hb⟩
 have B8:=Lib.hid hb
 clear hb HL8
 go_wp2_with fail
 refine(HL9.out w8 B8.out).mono ?_
 rintro e w9 ⟨rfl,hb⟩
 have B9:=Lib.hid (B8.out.trans (hb.mono B8.out.size))
 clear hb HL9 B8
 go_wp2_with fail
 refine(HPA.out w9 B9.out).mono ?_
 rintro e w10 ⟨pa,pc,rfl,hb⟩
 have B10:=Lib.hid (B9.out.trans (hb.mono B9.out.size))
 clear hb HPA B9
 go_wp2_with fail
 refine(HKI.out w10 B10.out).mono ?_
 rintro e w11 ⟨rfl,ns4,e1,f1,c1⟩
 have N11:Hid (Nf w w11 f ns4 3):=Lib.hid ((N7.out.down B10.out).go f1 c1)
 have E4:=Lib.hid e1
 have hl4:ns4.length=2:=by rw [len_nodes e1];rfl
 have HL4:=Lib.hid hl4
 have HL0:Hid (Calls Tryz.prog 27 #[.pointer (some ⟨f,0,none⟩),.int .i64 2,.int .i64 0] w11 fun e w'=>e = .returned (.bool false)∧Below w11.heap.size w11 w'):=Lib.hid (by
  have h:=live_any f1 (by omega) 2 0
  rw [e1,fx_l0] at h
  exact h)
 clear HKI N7 B10 e1 f1 c1 hl4
 go_wp2_with fail
 refine HL0.out.mono ?_
 rintro e w12 ⟨rfl,hb⟩
 have N12:=Lib.hid (N11.out.down hb)
 clear hb HL0 N11
 have hok:∀n∈[fK,fB],RowOk n:=fx_rows
 have HRO:Hid (Calls Tryz.prog 19 #[.pointer (some ⟨f,0,none⟩)] w12 fun e w'=>∃v,e = .returned v∧Below w12.heap.size w12 w'∧Rp w' v (rowsP [fK,fB] 3)):=Lib.hid (by
  have h:=rows_call (x:=3) N12.out.fr (by rw [HL4.out];decide) (by decide) (by rw [E4.out];exact hok) (HT.out.below N12.out.below)
  refine h.mono ?_
  rintro e w' ⟨v,rfl,hv⟩
  refine⟨v,rfl,hv.2.1,Rp.of (rows:=rowsP [fK,fB] 3) (n:=3) (B:=0) ?_ rfl⟩
  have h2:=hv.1
  rw [E4.out,HL4.out] at h2
  exact h2)
 clear hok
 go_wp2_with fail
 refine HRO.out.mono ?_
 rintro e w13 ⟨v,rfl,hb,hv⟩
 have N13:=Lib.hid (N12.out.down hb)
 have HLO:Hid (Calls Tryz.prog 22 #[v] w13 fun e w'=>∃f2 ns2,e = .returned (.tuple #[.pointer (some ⟨f2,0,none⟩),.int .i64 0])∧nodes ns2=[fK,fB]∧Nf w13 w' f2 ns2 3):=Lib.hid (load_any [fK,fB] 3 fx_whole w13 v hv (HT.out.below N13.out.below) (HM.out.below N13.out.below) fx_rows)
 clear hb hv HRO N12
 go_wp2_with fail
 refine HLO.out.mono ?_
 rintro e w14 ⟨f2,ns5,rfl,e5,n5⟩
 have N14:=Lib.hid (N13.out.down n5.below)
 have HNO:Hid (Calls Tryz.prog 17 #[.pointer (some ⟨f2,0,none⟩)] w14 fun e w'=>∃a c,e = .returned (.slice a 2 c)∧Below w14.heap.size w14 w'):=Lib.hid (by
  have h:=nodes_call n5.fr (by rw [len_nodes e5];decide) (by rw [e5];exact fx_short)
  refine h.mono ?_
  rintro e w' ⟨v,rs,rfl,h1,h2,h3,_⟩
  obtain⟨a,c,rfl⟩:=OwnR.owns_shape h2.1
  have hr:rs.length=2:=by
   have:=congrArg List.length h1
   rw [List.length_map,e5] at this
   exact this
  rw [hr]
  exact⟨a,c,rfl,h3⟩)
 clear e5 n5 HLO N13
 go_wp2_with fail
 refine HNO.out.mono ?_
 rintro e w15 ⟨na,nc,rfl,hb⟩
 have N15:=Lib.hid (N14.out.down hb)
 have HPR:Hid (Calls Tryz.prog 31 #[.pointer (some ⟨f,0,none⟩),.int .i64 0] w15 fun e w'=>Ends w15 f ns4 3 (.int .i64 2) [] 3 e w'):=Lib.hid (by
  have h:=prune_call N15.out.fr (by rw [HL4.out];decide) 0
  rw [E4.out,fx_pr,HL4.out] at h
  exact h)
 clear hb HNO N14
 go_wp2_with fail
 refine HPR.out.mono ?_
 rintro e w16 ⟨rfl,ns6,e1,f1,c1⟩
 have N16:=Lib.hid (N15.out.go f1 c1)
 clear HPR N15 e1 f1 c1
 go_wp2_with fail
 go_ret
 exact⟨by rfl,N16.out.below⟩
end Go.Proofs.YthogppennalobaaGreatDoor
namespace Go.Proofs.YthogppennalobaaGreatDoor.Pl
open Go.RowKit Go.Sort
end Go.Proofs.YthogppennalobaaGreatDoor.Pl
namespace Go.Proofs.YthogppennalobaaGreatDoor
open Go.RowKit Go.Sort Forest Pl
theorem rises_split (l:List Bs)(most:Int): ∀R,R=(l.all scopeP&&riseP l&&decide ((l.length:Int)≤most))→(∀i,i<l.length→(∀s,l[i]?=some s→scopeP s=false)→R=false)∧(∀i,i<l.length→upAt l i=false→R=false):=by
 intro R hR
 refine⟨fun i hi h=>?_,fun i hi h=>?_⟩
 ·have:l.all scopeP=false:=by
   rw [← Bool.not_eq_true,List.all_eq_true]
   intro ha
   have h1:=ha _ (List.getElem_mem hi)
   rw [h _ (List.getElem?_eq_getElem hi)] at h1
   cases h1
  rw [hR,this];rfl
 ·rw [hR,riseP_no hi h,Bool.and_false,Bool.false_and]
set_option maxHeartbeats 4000000 in
theorem rrises_any (l:List Bs)(hs:∀s∈l,s.length≤140737488355328)(hL:l.length≤140737488355328)(most:Int)(w:World)(v:Value)(hc:Rd w v l): Calls Tryz.prog 116 #[v,.int .i64 most,.int .i64 1] w fun e w'=>e = .returned (.bool (l.all scopeP&&riseP l&&decide ((l.length:Int)≤most)))∧∃q,w'=w.drewN q:=by
 have HS:=Lib.hid hs
 obtain⟨a,c,rfl,hc⟩:=hc
 have HC:=Lib.hid hc
 clear hc hs
 obtain⟨R,hR⟩:∃R,R=(l.all scopeP&&riseP l&&decide ((l.length:Int)≤most)):=⟨_,rfl⟩
 rw [← hR]
 have HR:=Lib.hid hR
 have HN:=Lib.hid (rises_split l most R hR)
 clear hR
 go_enter Tryz.func116,Tryz.ntmps116
 go_wp2_with fail
 go_loopw [7] (fun iv wr=>∃i:Nat,i≤l.length∧iv = .int .i64 (i:Int)∧Hid (∃q,wr=w.drewN q)∧Hid ((List.range i).all (upAt l)=true∧(l.take i).all scopeP=true)) (fun iv _=>l.length - (intOf iv).toNat)
 case atStart=>exact⟨0,Nat.zero_le _,rfl,Lib.hid ⟨0,rfl⟩,Lib.hid ⟨rfl,rfl⟩⟩
 case round=>
  obtain⟨i,hi,rfl,HQ,HI⟩:=hrel
  by_cases hlt:i<l.length
  ·obtain⟨s,hse⟩:∃s,l[i]'hlt=s:=⟨_,rfl⟩
   obtain⟨b,o,rfl,c0⟩:=HC.out i hlt
   have hltI:(i:Int)<(l.length:Int):=by omega
   have HK:=Lib.hid (fun W=>rscope_any s (HS.out s (hse▸List.getElem_mem hlt)) W)
   have HT:Hid ((l.take (i+1)).all scopeP=((l.take i).all scopeP&&scopeP s)):=Lib.hid (by rw [List.take_add_one,List.getElem?_eq_getElem hlt,hse,List.all_append];simp)
   have HU:=Lib.hid (range_all (upAt l) i)
   have HN1:Hid (scopeP s=false→R=false):=Lib.hid (fun h=>HN.out.1 i hlt fun s' h'=>by
    rw [List.getElem?_eq_getElem hlt,hse] at h'
    cases h'
    exact h)
   have HN2:Hid (upAt l i=false→R=false):=Lib.hid (fun h=>HN.out.2 i hlt h)
   have c1:wr.cell? ⟨b,o+i,none⟩=some (.string ⟨s.toArray⟩):=by
    obtain⟨q,rfl⟩:=HQ.out
    show w.cell? _=_
    rw [c0,hse];rfl
   clear HN
   cases hp:scopeP s with
   |false=>
    rw [hp] at HK
    have HF:=Lib.hid (HN1.out hp)
    clear hp c0 hse HT HU HN1 HN2
    go_wp2_with fail
    refine wp_region_quiet_lit (by kernel_rfl) (by kernel_rfl) ?_
    iterate 38 go_big_quiet_step ((go_at_call 140;exact Calls.quiet_of_same (HK.out _)))
    refine wpQuiet_nil ?_
    intro w2 hw'
    have HQ2:Hid (∃q,w2=w.drewN q):=Lib.hid (by
     obtain⟨n,rfl⟩:=hw'
     obtain⟨q,rfl⟩:=HQ.out
     exact⟨q+n,by simp [World.drewN];omega⟩)
    clear hw'
    go_wp2_with fail
    go_ret
    exact⟨by rw [HF.out];rfl,HQ2.out⟩
   |true=>
    rw [hp] at HK HT
    clear hp HN1
    by_cases h0:(0:Int)<(i:Int)
    ·obtain⟨r,hre⟩:∃r,l[i - 1]'(by omega)=r:=⟨_,rfl⟩
     have HUU:Hid (upAt l i = !leB s r):=Lib.hid (by
      unfold upAt
      rw [show(i == 0)=false by simp;omega,List.getD_eq_getElem?_getD,List.getD_eq_getElem?_getD,List.getElem?_eq_getElem hlt,List.getElem?_eq_getElem (show i - 1<l.length by omega),hse,hre]
      rfl)
     have c2:wr.cell? ⟨b,o+(i - 1),none⟩=some (.string ⟨r.toArray⟩):=by
      obtain⟨b',o',h1,h2⟩:=HC.out (i - 1) (by omega)
      cases h1
      obtain⟨q,rfl⟩:=HQ.out
      show w.cell? _=_
      rw [h2,hre];rfl
     obtain⟨d,hd⟩:∃d,leB s r=d:=⟨_,rfl⟩
     have hd2:(Op.bytesLess s r||s == r)=d:=hd
     rw [hd] at HUU
     obtain⟨i0,rfl⟩:∃i0,i=i0+1:=⟨i - 1,by omega⟩
     have hm:((i0:Int)+1 - 1)=i0:=by omega
     have hm1:(i0:Int)<(l.length:Int):=by omega
     simp only [Nat.add_sub_cancel] at c2
     clear c0 hse hre hd
     go_wp2_with fail
     refine wp_region_quiet_lit (by kernel_rfl) (by kernel_rfl) ?_
     iterate 38 go_big_quiet_step ((go_at_call 140;exact Calls.quiet_of_same (HK.out _)))
     refine wpQuiet_nil ?_
     intro w2 hw'
     have HQ2:Hid (∃q,w2=w.drewN q):=Lib.hid (by
      obtain⟨n,rfl⟩:=hw'
      obtain⟨q,rfl⟩:=HQ.out
      exact⟨q+n,by simp [World.drewN];omega⟩)
     clear hw'
     cases d with
     |true=>
      have HF:=Lib.hid (HN2.out (by rw [HUU.out];rfl))
      go_wp2_with fail
      go_ret
      exact⟨by rw [HF.out];rfl,HQ2.out⟩
     |false=>
      go_wp2_with fail
      go_roundw
      case rel=>exact⟨i0+1+1,by omega,by go_num,HQ2,Lib.hid ⟨by rw [HU.out,HI.out.1,HUU.out];rfl,by rw [HT.out,HI.out.2];rfl⟩⟩
      case measure=>simp [intOf];omega
    ·have hi0:i=0:=by omega
     subst hi0
     clear c0 hse h0
     simp only [Nat.add_zero] at c1
     have hltI2:(0:Int)<(l.length:Int):=by omega
     go_wp2_with fail
     refine wp_region_quiet_lit (by kernel_rfl) (by kernel_rfl) ?_
     iterate 38 go_big_quiet_step ((go_at_call 140;exact Calls.quiet_of_same (HK.out _)))
     refine wpQuiet_nil ?_
     intro w2 hw'
     have HQ2:Hid (∃q,w2=w.drewN q):=Lib.hid (by
      obtain⟨n,rfl⟩:=hw'
      obtain⟨q,rfl⟩:=HQ.out
      exact⟨q+n,by simp [World.drewN];omega⟩)
     clear hw'
     go_wp2_with fail
     go_roundw
     case rel=>exact⟨0+1,by omega,by go_num,HQ2,Lib.hid ⟨by rw [HU.out,HI.out.1];rfl,by rw [HT.out,HI.out.2];rfl⟩⟩
     case measure=>simp [intOf];omega
  ·have hie:i=l.length:=by omega
   have hltI:¬(i:Int)<(l.length:Int):=by omega
   have HA:Hid (R=decide ((l.length:Int)≤most)):=Lib.hid (by
    have h:=HI.out
    rw [hie,List.take_length] at h
    rw [HR.out,h.2,show riseP l=true from h.1];rfl)
   go_wp2_with fail
   go_ret
   exact⟨by rw [HA.out];rfl,HQ.out⟩
end Go.Proofs.YthogppennalobaaGreatDoor
