/- What one number does to a state. Condition: a state in a blo -/
import Derived.Test.YtpggkfdijmnmiaaGreatZw01
set_option linter.unusedVariables false
set_option linter.unusedSimpArgs false
set_option maxRecDepth 100000
namespace Go.Proofs.YtpggkfdijmnmiaaGreat
namespace Hs
open Go.RowKit
open Go.Lib renaming hid→Φ
theorem qs {f:FuncId}{args:Array Value}{w:World}{v:Value}(h:Calls Tryz.prog f args w fun e w'=>e = .returned v∧w=w'): Calls Tryz.prog f args w fun e w'=>e = .returned v∧w'=w:=h.mono fun _ _ h=>⟨h.1,h.2.symm⟩
theorem step_copy_row {P:Program}{ops:Array Oper}{o:Oper}{a:Act}{w:World}{K:Act→World→Prop}{Q:Exit→Act→World→Prop}{E:Prop}(hgd:o.guard=none)(d s:Operand)(dT sT:TypeId)
  (ho:o.op = .call {callee:= .builtin .copy,args:=#[d,s],argTypes:=#[dT,sT]}) (elem:TypeId) (hu:P.underlying dT=some (.slice elem)) (hsz:(P.info? elem).map (·.size)=some 1)
  (g off:Nat) (ad:Addr) (dLen dCap sLen sCap:Nat) (hd:a.eval d = .slice (some ⟨g,off,none⟩) dLen dCap) (hs:a.eval s = .slice (some ad) sLen sCap)
  (cur:List Value) (t:TypeId) (hg:w.heap[g]?=some (.cells cur.toArray t (0,0))) (cs:List Value) (hn:cs.length=Nat.min sLen dLen)
  (hsrc:∀j v,cs[j]?=some v→w.cell? (ad.add j)=some v) (hfit:off+cs.length≤cur.length) (h1:∀v∈cs,v.oneCell'=true)
  (h:K (a.put o.dst (goInt cs.length)) (w.setRow g (splice cur off cs).toArray)) :
  if Region.wanted o (yielded ops a.tmps)=true then Oper.wp P o a w K Q else E:=by
 have hw:Region.wanted o (yielded ops a.tmps)=true:=by simp [Region.wanted,hgd]
 rw [if_pos hw];have hrun:=run_copy_row (P:=P) w dT sT o.type elem g off dLen dCap ad sLen sCap cur.toArray t cs hu hsz hg hn hsrc (by simpa using hfit) h1;unfold Oper.wp;simp [execOp,ho,resolve,invoke,builtin,hd,hs,hrun,Result.andThen];exact h
def Oth (b:Nat)(w w':World): Prop:=(∀j:Nat,j≠b→w'.heap[j]?=w.heap[j]?)∧Below b w w'
theorem Oth.refl (b:Nat)(w:World): Oth b w w:=⟨fun _ _=>rfl,Below.refl _ _⟩
theorem Oth.drew {b:Nat}{w w':World}(h:Oth b w w'): Oth b w w'.drew:=⟨h.1,h.2.drew⟩
theorem Oth.setRow {b:Nat}{w w':World}(h:Oth b w w')(cs:Array Value): Oth b w (w'.setRow b cs):=
 ⟨fun j hj=>by
  rw [← h.1 j hj];simp only [World.setRow,Array.getElem?_modify];rw [if_neg (fun e=>hj e.symm)],setRow_below h.2 (Nat.le_refl _)⟩
theorem Oth.setCell {b:Nat}{w w':World}(h:Oth b w w')(o:Nat)(v:Value): Oth b w (w'.setCell ⟨b,o,none⟩ v):=
 ⟨fun j hj=>(Below.heap_setCell w' ⟨b,o,none⟩ v j hj).trans (h.1 j hj),h.2.setCell (p:=⟨b,o,none⟩) (Nat.le_refl _) _⟩
set_option maxHeartbeats 8000000 in
set_option maxRecDepth 100000 in
theorem turn8_any (b:Nat)(h0 h1 h2 h3 h4 h5 h6 h7 n:UInt32)(w:World)(hb:w.heap[b]?=some (.cells (ws [h0,h1,h2,h3,h4,h5,h6,h7]) 169 (0,0))):
  Calls Tryz.prog 195 #[.pointer (some ⟨b,0,none⟩),.int .u32 (n.toNat:Int)] w fun e w'=>e = .returned (.tuple #[])∧
   w'.heap[b]?=some (.cells (ws (turnL [h0,h1,h2,h3,h4,h5,h6,h7] n)) 169 (0,0))∧Oth b w w':=by
 have HB:=Φ hb;have c0:w.cell? ⟨b,0,none⟩=some (.int .u32 (h0.toNat:Int)):=blk_cell hb 0;have c1:w.cell? ⟨b,1,none⟩=some (.int .u32 (h1.toNat:Int)):=blk_cell hb 1;have c2:w.cell? ⟨b,2,none⟩=some (.int .u32 (h2.toNat:Int)):=blk_cell hb 2;have c4:w.cell? ⟨b,4,none⟩=some (.int .u32 (h4.toNat:Int)):=blk_cell hb 4;have c5:w.cell? ⟨b,5,none⟩=some (.int .u32 (h5.toNat:Int)):=blk_cell hb 5;have c6:w.cell? ⟨b,6,none⟩=some (.int .u32 (h6.toNat:Int)):=blk_cell hb 6;have c7:w.cell? ⟨b,7,none⟩=some (.int .u32 (h7.toNat:Int)):=blk_cell hb 7;have R6:=Φ (ror6 h4);have R11:=Φ (ror11 h4);have R25:=Φ (ror25 h4);have R2:=Φ (ror2 h0);have R13:=Φ (ror13 h0);have R22:=Φ (ror22 h0);have x1:=xorW (rorW h4 6) (rorW h4 11);have x2:=xorW (rorW h4 6 ^^^ rorW h4 11) (rorW h4 25);have x3:=andW h4 h5;have x4:=andNotW h6 h4;have x5:=xorW (h4&&&h5) (h6&&&~~~h4);have y1:=xorW (rorW h0 2) (rorW h0 13);have y2:=xorW (rorW h0 2 ^^^ rorW h0 13) (rorW h0 22);have y3:=andW h0 h1;have y4:=andW h0 h2;have y5:=xorW (h0&&&h1) (h0&&&h2);have y6:=andW h1 h2;have y7:=xorW (h0&&&h1 ^^^ h0&&&h2) (h1&&&h2);have hT:(((h7.toNat:Int)+((S1 h4).toNat:Int)+((Ch h4 h5 h6).toNat:Int)) % 4294967296+(n.toNat:Int)) % 4294967296=((h7+S1 h4+Ch h4 h5 h6+n).toNat:Int):=by
  rw [UInt32.toNat_add,UInt32.toNat_add,UInt32.toNat_add];omega
 have hU:(((S0 h0).toNat:Int)+((Maj h0 h1 h2).toNat:Int)) % 4294967296=((S0 h0+Maj h0 h1 h2).toNat:Int):=by
  rw [UInt32.toNat_add];omega
 have HL:Hid (turnL [h0,h1,h2,h3,h4,h5,h6,h7] n=[(h7+S1 h4+Ch h4 h5 h6+n)+(S0 h0+Maj h0 h1 h2),h0,h1,h2,h3+(h7+S1 h4+Ch h4 h5 h6+n),h4,h5,h6]):=Φ rfl;rw [HL.out];clear HL;generalize h7+S1 h4+Ch h4 h5 h6+n=T at hT ⊢;generalize S0 h0+Maj h0 h1 h2=U at hU ⊢;unfold S1 Ch at hT;unfold S0 Maj at hU;have hE:((h3.toNat:Int)+(T.toNat:Int)) % 4294967296=((h3+T).toNat:Int):=by rw [UInt32.toNat_add];omega
 have hF:((T.toNat:Int)+(U.toNat:Int)) % 4294967296=((T+U).toNat:Int):=by rw [UInt32.toNat_add];omega
 generalize h3+T=E at hE ⊢;generalize T+U=F at hF ⊢;generalize rorW h4 6 ^^^ rorW h4 11 ^^^ rorW h4 25=s1 at x2 hT;generalize rorW h4 6 ^^^ rorW h4 11=p1 at x1 x2;generalize h4&&&h5 ^^^ h6&&&~~~h4=ch at x5 hT;generalize h4&&&h5=q1 at x3 x5;generalize h6&&&~~~h4=q2 at x4 x5;generalize rorW h0 2 ^^^ rorW h0 13 ^^^ rorW h0 22=s0 at y2 hU;generalize rorW h0 2 ^^^ rorW h0 13=p0 at y1 y2;generalize h0&&&h1 ^^^ h0&&&h2 ^^^ h1&&&h2=mj at y7 hU;generalize h0&&&h1 ^^^ h0&&&h2=m3 at y5 y7;generalize h0&&&h1=m1 at y3 y5;generalize h0&&&h2=m2 at y4 y5;generalize h1&&&h2=m4 at y6 y7;generalize rorW h4 6=r6 at x1 R6;generalize rorW h4 11=r11 at x1 R11;generalize rorW h4 25=r25 at x2 R25;generalize rorW h0 2=r2 at y1 R2;generalize rorW h0 13=r13 at y1 R13;generalize rorW h0 22=r22 at y2 R22;clear hb;go_enter Tryz.func195,Tryz.ntmps195;go_wp2_with fail
 go_region
 have HB1:Hid (w.drew.heap[b]?=some (.cells (ws [h0,h1,h2,h3,h4,h5,h6,h7]) 169 (0,0))):=Φ HB.out;have HD:Hid (Oth b w w.drew):=Φ (Oth.refl b w).drew;clear c0 c1 c2 c4 c5 c6 c7 HB;generalize w.drew=w1 at HB1 HD ⊢;have c7:w1.cell? ⟨b,7,none⟩=some (.int .u32 (h7.toNat:Int)):=blk_cell HB1.out 7;go_wp2_with fail
 go_quiet ((go_at_call 205;first | exact Calls.quiet_of_same (qs (R6.out _)) | exact Calls.quiet_of_same (qs (R11.out _)) | exact Calls.quiet_of_same (qs (R25.out _))));have HB2:Hid ((w1.drewN nq).heap[b]?=some (.cells (ws [h0,h1,h2,h3,h4,h5,h6,h7]) 169 (0,0))):=Φ HB1.out;have HD2:Hid (Oth b w (w1.drewN nq)):=Φ ⟨HD.out.1,⟨HD.out.2.os,HD.out.2.tape,HD.out.2.output,HD.out.2.size,HD.out.2.block⟩⟩;clear c7 HB1 HD;generalize w1.drewN nq=w2 at HB2 HD2 ⊢;go_wp2_with fail;refine(R2.out _).mono ?_;rintro e w5 ⟨rfl,rfl⟩;go_wp2_with fail;refine(R13.out _).mono ?_;rintro e w5 ⟨rfl,rfl⟩;go_wp2_with fail;refine(R22.out _).mono ?_;rintro e w5 ⟨rfl,rfl⟩;go_wp2_with fail
 go_region_law (refine step_copy_row rfl (.tmp 81) (.tmp 84) 69 69 rfl 111 Tryz.underlying69 s35 b 1 ⟨b,0,none⟩ 7 7 7 8 (by simp [Act.eval,Act.put]) (by simp [Act.eval,Act.put]) (wl [h0,h1,h2,h3,h4,h5,h6,h7]) 169 HB2.out (wl [h0,h1,h2,h3,h4,h5,h6]) rfl (fun j v hv=>by rw [at0];refine(blk_cell HB2.out j).trans ?_;have hj:=(List.getElem?_eq_some_iff.1 hv).1;simp only [wl,List.map_cons,List.map_nil,List.length_cons,List.length_nil] at hj;simp only [ws,wl,List.map_cons,List.map_nil] at hv ⊢;match j,hj with | 0,_=>exact hv | 1,_=>exact hv | 2,_=>exact hv | 3,_=>exact hv | 4,_=>exact hv | 5,_=>exact hv | 6,_=>exact hv) (by simp [wl]) (wl_one _) ?_)
 have HB3:Hid ((w2.drew.setRow b (splice (wl [h0,h1,h2,h3,h4,h5,h6,h7]) 1 (wl [h0,h1,h2,h3,h4,h5,h6])).toArray).heap[b]?=some (.cells (ws [h0,h0,h1,h2,h3,h4,h5,h6]) 169 (0,0))):=Φ (setRow_put (show w2.drew.heap[b]?=_ from HB2.out));have HD3:=Φ (HD2.out.drew.setRow (splice (wl [h0,h1,h2,h3,h4,h5,h6,h7]) 1 (wl [h0,h1,h2,h3,h4,h5,h6])).toArray);clear HB2 HD2;generalize w2.drew.setRow b (splice (wl [h0,h1,h2,h3,h4,h5,h6,h7]) 1 (wl [h0,h1,h2,h3,h4,h5,h6])).toArray=w3 at HB3 HD3 ⊢;have c4:w3.cell? ⟨b,4,none⟩=some (.int .u32 (h3.toNat:Int)):=blk_cell HB3.out 4;have f4:=Lib.frozen_of_heap HB3.out 4;go_wp2_with fail
 go_region
 have HB4:Hid ((w3.setCell ⟨b,4,none⟩ (.int .u32 (E.toNat:Int))).heap[b]?=some (.cells (ws [h0,h0,h1,h2,E,h4,h5,h6]) 169 (0,0))):=Φ (by
  have:=blk_put HB3.out 4 (.int .u32 (E.toNat:Int))
  rwa [ws_set] at this)
 have HD4:=Φ (HD3.out.setCell 4 (.int .u32 (E.toNat:Int)));clear c4 f4 HB3 HD3;generalize w3.setCell ⟨b,4,none⟩ (.int .u32 (E.toNat:Int))=w4 at HB4 HD4 ⊢;have c0:w4.cell? ⟨b,0,none⟩=some (.int .u32 (h0.toNat:Int)):=blk_cell HB4.out 0;have f0:=Lib.frozen_of_heap HB4.out 0;go_wp2_with fail;have HB5:Hid ((w4.setCell ⟨b,0,none⟩ (.int .u32 (F.toNat:Int))).heap[b]?=some (.cells (ws [F,h0,h1,h2,E,h4,h5,h6]) 169 (0,0))):=Φ (by
  have:=blk_put HB4.out 0 (.int .u32 (F.toNat:Int))
  rwa [ws_set] at this)
 have HD5:=Φ ((HD4.out.setCell 0 (.int .u32 (F.toNat:Int))).drew);clear c0 f0 HB4 HD4
 go_end0
 exact⟨rfl,HB5.out,HD5.out⟩
theorem turn_any (b:Nat)(h:List UInt32)(hl:h.length=8)(n:UInt32)(w:World)(hb:w.heap[b]?=some (.cells (ws h) 169 (0,0))):
  Calls Tryz.prog 195 #[.pointer (some ⟨b,0,none⟩),.int .u32 (n.toNat:Int)] w fun e w'=>e = .returned (.tuple #[])∧
   w'.heap[b]?=some (.cells (ws (turnL h n)) 169 (0,0))∧Oth b w w':=by
 match h,hl with
 |[h0,h1,h2,h3,h4,h5,h6,h7],_=>exact turn8_any b h0 h1 h2 h3 h4 h5 h6 h7 n w hb
end Hs
end Go.Proofs.YtpggkfdijmnmiaaGreat
