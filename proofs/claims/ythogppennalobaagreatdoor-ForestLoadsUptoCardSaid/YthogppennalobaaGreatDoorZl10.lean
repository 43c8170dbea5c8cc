/- The drawn region of nodeRow. No condition. -/
import Derived.Test.YthogppennalobaaGreatDoorZl02
import Derived.Test.YthogppennalobaaGreatDoorZl07
import Derived.Test.YthogppennalobaaGreatDoorZl09
set_option linter.unusedVariables false
set_option linter.unusedSimpArgs false
set_option maxRecDepth 100000
namespace Go.Proofs.YthogppennalobaaGreatDoor.Pl
open Go.RowKit Go.Sort
theorem k_fa31_1 {Q:Exit→Act→World→Prop}{T:Array Value}{ds:List Deferred}{w:World}{ty:TypeId}{dst:Option Tmp}{s:Nat}{ps af g}{b:Nat}(e:T.getD s undef = .pointer (some ⟨b,0,none⟩)): Oper.wp Tryz.prog ⟨dst,.fieldAddr 31 (.tmp s) 1,ty,ps,af,g⟩ ⟨T,ds⟩ w (fun a' w''=>a'=Act.put ⟨T,ds⟩ dst (.pointer (some ⟨b,1,none⟩))∧w''=w) Q:=by
 go_simp
theorem k_fa31_10 {Q:Exit→Act→World→Prop}{T:Array Value}{ds:List Deferred}{w:World}{ty:TypeId}{dst:Option Tmp}{s:Nat}{ps af g}{b:Nat}(e:T.getD s undef = .pointer (some ⟨b,0,none⟩)): Oper.wp Tryz.prog ⟨dst,.fieldAddr 31 (.tmp s) 10,ty,ps,af,g⟩ ⟨T,ds⟩ w (fun a' w''=>a'=Act.put ⟨T,ds⟩ dst (.pointer (some ⟨b,10,none⟩))∧w''=w) Q:=by
 go_simp
theorem k_fa31_12 {Q:Exit→Act→World→Prop}{T:Array Value}{ds:List Deferred}{w:World}{ty:TypeId}{dst:Option Tmp}{s:Nat}{ps af g}{b:Nat}(e:T.getD s undef = .pointer (some ⟨b,0,none⟩)): Oper.wp Tryz.prog ⟨dst,.fieldAddr 31 (.tmp s) 12,ty,ps,af,g⟩ ⟨T,ds⟩ w (fun a' w''=>a'=Act.put ⟨T,ds⟩ dst (.pointer (some ⟨b,12,none⟩))∧w''=w) Q:=by
 go_simp
theorem k_fa31_13 {Q:Exit→Act→World→Prop}{T:Array Value}{ds:List Deferred}{w:World}{ty:TypeId}{dst:Option Tmp}{s:Nat}{ps af g}{b:Nat}(e:T.getD s undef = .pointer (some ⟨b,0,none⟩)): Oper.wp Tryz.prog ⟨dst,.fieldAddr 31 (.tmp s) 13,ty,ps,af,g⟩ ⟨T,ds⟩ w (fun a' w''=>a'=Act.put ⟨T,ds⟩ dst (.pointer (some ⟨b,13,none⟩))∧w''=w) Q:=by
 go_simp
theorem k_fa31_14 {Q:Exit→Act→World→Prop}{T:Array Value}{ds:List Deferred}{w:World}{ty:TypeId}{dst:Option Tmp}{s:Nat}{ps af g}{b:Nat}(e:T.getD s undef = .pointer (some ⟨b,0,none⟩)): Oper.wp Tryz.prog ⟨dst,.fieldAddr 31 (.tmp s) 14,ty,ps,af,g⟩ ⟨T,ds⟩ w (fun a' w''=>a'=Act.put ⟨T,ds⟩ dst (.pointer (some ⟨b,14,none⟩))∧w''=w) Q:=by
 go_simp
theorem k_fa31_3 {Q:Exit→Act→World→Prop}{T:Array Value}{ds:List Deferred}{w:World}{ty:TypeId}{dst:Option Tmp}{s:Nat}{ps af g}{b:Nat}(e:T.getD s undef = .pointer (some ⟨b,0,none⟩)): Oper.wp Tryz.prog ⟨dst,.fieldAddr 31 (.tmp s) 3,ty,ps,af,g⟩ ⟨T,ds⟩ w (fun a' w''=>a'=Act.put ⟨T,ds⟩ dst (.pointer (some ⟨b,3,none⟩))∧w''=w) Q:=by
 go_simp
theorem k_fa31_4 {Q:Exit→Act→World→Prop}{T:Array Value}{ds:List Deferred}{w:World}{ty:TypeId}{dst:Option Tmp}{s:Nat}{ps af g}{b:Nat}(e:T.getD s undef = .pointer (some ⟨b,0,none⟩)): Oper.wp Tryz.prog ⟨dst,.fieldAddr 31 (.tmp s) 4,ty,ps,af,g⟩ ⟨T,ds⟩ w (fun a' w''=>a'=Act.put ⟨T,ds⟩ dst (.pointer (some ⟨b,4,none⟩))∧w''=w) Q:=by
 go_simp
theorem k_fa31_5 {Q:Exit→Act→World→Prop}{T:Array Value}{ds:List Deferred}{w:World}{ty:TypeId}{dst:Option Tmp}{s:Nat}{ps af g}{b:Nat}(e:T.getD s undef = .pointer (some ⟨b,0,none⟩)): Oper.wp Tryz.prog ⟨dst,.fieldAddr 31 (.tmp s) 5,ty,ps,af,g⟩ ⟨T,ds⟩ w (fun a' w''=>a'=Act.put ⟨T,ds⟩ dst (.pointer (some ⟨b,5,none⟩))∧w''=w) Q:=by
 go_simp
theorem k_fa31_7 {Q:Exit→Act→World→Prop}{T:Array Value}{ds:List Deferred}{w:World}{ty:TypeId}{dst:Option Tmp}{s:Nat}{ps af g}{b:Nat}(e:T.getD s undef = .pointer (some ⟨b,0,none⟩)): Oper.wp Tryz.prog ⟨dst,.fieldAddr 31 (.tmp s) 7,ty,ps,af,g⟩ ⟨T,ds⟩ w (fun a' w''=>a'=Act.put ⟨T,ds⟩ dst (.pointer (some ⟨b,7,none⟩))∧w''=w) Q:=by
 go_simp
theorem k_fa31_8 {Q:Exit→Act→World→Prop}{T:Array Value}{ds:List Deferred}{w:World}{ty:TypeId}{dst:Option Tmp}{s:Nat}{ps af g}{b:Nat}(e:T.getD s undef = .pointer (some ⟨b,0,none⟩)): Oper.wp Tryz.prog ⟨dst,.fieldAddr 31 (.tmp s) 8,ty,ps,af,g⟩ ⟨T,ds⟩ w (fun a' w''=>a'=Act.put ⟨T,ds⟩ dst (.pointer (some ⟨b,8,none⟩))∧w''=w) Q:=by
 go_simp
theorem k_fa31_9 {Q:Exit→Act→World→Prop}{T:Array Value}{ds:List Deferred}{w:World}{ty:TypeId}{dst:Option Tmp}{s:Nat}{ps af g}{b:Nat}(e:T.getD s undef = .pointer (some ⟨b,0,none⟩)): Oper.wp Tryz.prog ⟨dst,.fieldAddr 31 (.tmp s) 9,ty,ps,af,g⟩ ⟨T,ds⟩ w (fun a' w''=>a'=Act.put ⟨T,ds⟩ dst (.pointer (some ⟨b,9,none⟩))∧w''=w) Q:=by
 go_simp
theorem k_ld29 {Q:Exit→Act→World→Prop}{T:Array Value}{ds:List Deferred}{w:World}{ty:TypeId}{dst:Option Tmp}{s:Nat}{ps af g}{b o:Nat}{v:Value}(h:w.cell? ⟨b,o,none⟩=some v)(e:T.getD s undef = .pointer (some ⟨b,o,none⟩)): Oper.wp Tryz.prog ⟨dst,.load 29 (.tmp s),ty,ps,af,g⟩ ⟨T,ds⟩ w (fun a' w''=>a'=Act.put ⟨T,ds⟩ dst v∧w''=w) Q:=by
 go_simp
theorem k_ld4 {Q:Exit→Act→World→Prop}{T:Array Value}{ds:List Deferred}{w:World}{ty:TypeId}{dst:Option Tmp}{s:Nat}{ps af g}{b o:Nat}{v:Value}(h:w.cell? ⟨b,o,none⟩=some v)(e:T.getD s undef = .pointer (some ⟨b,o,none⟩)): Oper.wp Tryz.prog ⟨dst,.load 4 (.tmp s),ty,ps,af,g⟩ ⟨T,ds⟩ w (fun a' w''=>a'=Act.put ⟨T,ds⟩ dst v∧w''=w) Q:=by
 go_simp
theorem k_ld9 {Q:Exit→Act→World→Prop}{T:Array Value}{ds:List Deferred}{w:World}{ty:TypeId}{dst:Option Tmp}{s:Nat}{ps af g}{b o:Nat}{v:Value}(h:w.cell? ⟨b,o,none⟩=some v)(e:T.getD s undef = .pointer (some ⟨b,o,none⟩)): Oper.wp Tryz.prog ⟨dst,.load 9 (.tmp s),ty,ps,af,g⟩ ⟨T,ds⟩ w (fun a' w''=>a'=Act.put ⟨T,ds⟩ dst v∧w''=w) Q:=by
 go_simp
def flagT (b:Bool): List UInt8:=if b then [49] else [48]
theorem k_len9 {Q:Exit→Act→World→Prop}{T:Array Value}{ds:List Deferred}{w:World}{ty:TypeId}{dst:Option Tmp}{s:Nat}{ps af g}{l:List UInt8}(e:T.getD s undef = .string ⟨l.toArray⟩): Oper.wp Tryz.prog ⟨dst,.call {callee:= .builtin .len,args:=#[.tmp s],argTypes:=#[9]},ty,ps,af,g⟩ ⟨T,ds⟩ w (fun a' w''=>a'=Act.put ⟨T,ds⟩ dst (.int .i64 (l.length:Int))∧w''=w) Q:=by
 have hz:(⟨l.toArray⟩:ByteArray).size=l.length:=size_ba l
 go_simp
theorem k_sub8 {Q:Exit→Act→World→Prop}{T:Array Value}{ds:List Deferred}{w:World}{ty:TypeId}{dst:Option Tmp}{s:Nat}{ps af g}{n c:Nat}(h:n+c=8)(e:T.getD s undef = .int .i64 (n:Int)): Oper.wp Tryz.prog ⟨dst,.binOp .sub 3 (.const (.int .i64 8)) (.tmp s) 3,ty,ps,af,g⟩ ⟨T,ds⟩ w (fun a' w''=>a'=Act.put ⟨T,ds⟩ dst (.int .i64 (c:Int))∧w''=w) Q:=by
 have hc:IntKind.i64.wrap (8 - (n:Int))=(c:Int):=by rw [IntKind.wrap_i64];omega
 go_simp
 all_goals rw [hc]
theorem cat_bas (a b:List UInt8): (⟨a.toArray⟩:ByteArray)++⟨b.toArray⟩=⟨(a++b).toArray⟩:=by
 apply ByteArray.ext
 simp
theorem k_catc {Q:Exit→Act→World→Prop}{T:Array Value}{ds:List Deferred}{w:World}{ty:TypeId}{dst:Option Tmp}{s:Nat}{ps af g}{l:List UInt8}(hl:l.length≤8)(e:T.getD s undef = .string ⟨l.toArray⟩): Oper.wp Tryz.prog ⟨dst,.binOp .add 9 (.const (.string ⟨#[110,111,100,101,47]⟩)) (.tmp s) 9,ty,ps,af,g⟩ ⟨T,ds⟩ w (fun a' w''=>a'=Act.put ⟨T,ds⟩ dst (.string ⟨([110,111,100,101,47]++l).toArray⟩)∧w''=w) Q:=by
 have hz:(⟨l.toArray⟩:ByteArray).size=l.length:=size_ba l
 have hI:¬9223372036854775807<5+l.length:=by omega
 have hx:=Lib.hid (cat_bas [110,111,100,101,47] l)
 go_simp
 rw [hx.out]
 rfl
theorem k_cat2 {Q:Exit→Act→World→Prop}{T:Array Value}{ds:List Deferred}{w:World}{ty:TypeId}{dst:Option Tmp}{s r:Nat}{ps af g}{l m:List UInt8}(hl:l.length≤8)(hm:m.length≤8)(e:T.getD s undef = .string ⟨([110,111,100,101,47]++l).toArray⟩)(e2:T.getD r undef = .string ⟨m.toArray⟩): Oper.wp Tryz.prog ⟨dst,.binOp .add 9 (.tmp s) (.tmp r) 9,ty,ps,af,g⟩ ⟨T,ds⟩ w (fun a' w''=>a'=Act.put ⟨T,ds⟩ dst (.string ⟨(([110,111,100,101,47]++l)++m).toArray⟩)∧w''=w) Q:=by
 obtain⟨k,hk⟩:∃k,k=[110,111,100,101,47]++l:=⟨_,rfl⟩
 rw [← hk] at e ⊢
 have hkl:k.length≤13:=by rw [hk];simp;omega
 have hz:(⟨k.toArray⟩:ByteArray).size=k.length:=size_ba k
 have hz2:(⟨m.toArray⟩:ByteArray).size=m.length:=size_ba m
 have hI:¬9223372036854775807<k.length+m.length:=by omega
 have hx:=Lib.hid (cat_bas k m)
 clear hk
 go_simp
 rw [hx.out]
noncomputable def nrRO:Array Oper:=(Tryz.f53.body.bind fun c=>findR c 2).getD #[]
def nrR_m:List (List Nat):=[[],[],[],[],[3],[],[3],[],[],[],[],[],[3,11],[],[],[],[],[],[],[],[],[],[3,11,12],[],[],[],[],[],[3,11,12,22,27],[],[],[3,11,12,22,27,28],[],[],[3,11,12,22,27,28,31],[3,11,12,22,27,28,31,34],[],[],[3,11,12,22,27,28,31,34],[],[],[],[3,11,12,22,27,28,31,34,38,41],[],[],[],[],[],[3,11,12,19,22,27,28,31,34,35,38,41,42,47],[3,11,12,19,22,27,28,31,34,35,38,41,42,47,48],[3,11,12,19,22,27,28,31,34,35,38,41,42,47,48,49],[3,11,12,19,22,27,28,31,34,35,38,41,42,47,48,49,50],[3,11,12,19,22,27,28,31,34,35,38,41,42,47,48,49,50]]
set_option maxHeartbeats 16000000 in
theorem nrR (PW:Bool→Bool→Bool→Bool→Bool→Bool→Bool→Bool→Bool→Bool→Bool→Bool→Bool→Bool→Bool→Bool→Bool→Bool→Value→Value→Value→Value→Value→Value→Value→Value→Value→Value→Value→Value→Value→World→Prop)(g pb zc:Nat)(kind par born exp level:Int)(subj cli aud sec dat idt zs fv:List UInt8)(dead spent:Bool)(sv av:Value)(w:World)  (h1:∀(b3 b11 b12 b19 b22 b27 b28 b31 b34 b35 b38 b41 b42 b47 b48 b49 b50 b52:Bool) (y11 y12 y19 y22 y27 y28 y35 y38 y41 y42 y47 y48 y49:Value) (w:World),PW b3 b11 b12 b19 b22 b27 b28 b31 b34 b35 b38 b41 b42 b47 b48 b49 b50 b52 y11 y12 y19 y22 y27 y28 y35 y38 y41 y42 y47 y48 y49 w→w.cell? ⟨g,1,none⟩=some (.int .i64 kind))(h2:∀(b3 b11 b12 b19 b22 b27 b28 b31 b34 b35 b38 b41 b42 b47 b48 b49 b50 b52:Bool) (y11 y12 y19 y22 y27 y28 y35 y38 y41 y42 y47 y48 y49:Value) (w:World),PW b3 b11 b12 b19 b22 b27 b28 b31 b34 b35 b38 b41 b42 b47 b48 b49 b50 b52 y11 y12 y19 y22 y27 y28 y35 y38 y41 y42 y47 y48 y49 w→w.cell? ⟨g,2,none⟩=some (.int .i64 par))(h3:∀(b3 b11 b12 b19 b22 b27 b28 b31 b34 b35 b38 b41 b42 b47 b48 b49 b50 b52:Bool) (y11 y12 y19 y22 y27 y28 y35 y38 y41 y42 y47 y48 y49:Value) (w:World),PW b3 b11 b12 b19 b22 b27 b28 b31 b34 b35 b38 b41 b42 b47 b48 b49 b50 b52 y11 y12 y19 y22 y27 y28 y35 y38 y41 y42 y47 y48 y49 w→w.cell? ⟨g,3,none⟩=some (.string ⟨subj.toArray⟩))(h4:∀(b3 b11 b12 b19 b22 b27 b28 b31 b34 b35 b38 b41 b42 b47 b48 b49 b50 b52:Bool) (y11 y12 y19 y22 y27 y28 y35 y38 y41 y42 y47 y48 y49:Value) (w:World),PW b3 b11 b12 b19 b22 b27 b28 b31 b34 b35 b38 b41 b42 b47 b48 b49 b50 b52 y11 y12 y19 y22 y27 y28 y35 y38 y41 y42 y47 y48 y49 w→w.cell? ⟨g,4,none⟩=some (.string ⟨cli.toArray⟩))(h5:∀(b3 b11 b12 b19 b22 b27 b28 b31 b34 b35 b38 b41 b42 b47 b48 b49 b50 b52:Bool) (y11 y12 y19 y22 y27 y28 y35 y38 y41 y42 y47 y48 y49:Value) (w:World),PW b3 b11 b12 b19 b22 b27 b28 b31 b34 b35 b38 b41 b42 b47 b48 b49 b50 b52 y11 y12 y19 y22 y27 y28 y35 y38 y41 y42 y47 y48 y49 w→w.cell? ⟨g,5,none⟩=some (.string ⟨aud.toArray⟩))(h6:∀(b3 b11 b12 b19 b22 b27 b28 b31 b34 b35 b38 b41 b42 b47 b48 b49 b50 b52:Bool) (y11 y12 y19 y22 y27 y28 y35 y38 y41 y42 y47 y48 y49:Value) (w:World),PW b3 b11 b12 b19 b22 b27 b28 b31 b34 b35 b38 b41 b42 b47 b48 b49 b50 b52 y11 y12 y19 y22 y27 y28 y35 y38 y41 y42 y47 y48 y49 w→w.cell? ⟨g,6,none⟩=some (sv))(h7:∀(b3 b11 b12 b19 b22 b27 b28 b31 b34 b35 b38 b41 b42 b47 b48 b49 b50 b52:Bool) (y11 y12 y19 y22 y27 y28 y35 y38 y41 y42 y47 y48 y49:Value) (w:World),PW b3 b11 b12 b19 b22 b27 b28 b31 b34 b35 b38 b41 b42 b47 b48 b49 b50 b52 y11 y12 y19 y22 y27 y28 y35 y38 y41 y42 y47 y48 y49 w→w.cell? ⟨g,7,none⟩=some (.int .i64 born))(h8:∀(b3 b11 b12 b19 b22 b27 b28 b31 b34 b35 b38 b41 b42 b47 b48 b49 b50 b52:Bool) (y11 y12 y19 y22 y27 y28 y35 y38 y41 y42 y47 y48 y49:Value) (w:World),PW b3 b11 b12 b19 b22 b27 b28 b31 b34 b35 b38 b41 b42 b47 b48 b49 b50 b52 y11 y12 y19 y22 y27 y28 y35 y38 y41 y42 y47 y48 y49 w→w.cell? ⟨g,8,none⟩=some (.int .i64 exp))(h9:∀(b3 b11 b12 b19 b22 b27 b28 b31 b34 b35 b38 b41 b42 b47 b48 b49 b50 b52:Bool) (y11 y12 y19 y22 y27 y28 y35 y38 y41 y42 y47 y48 y49:Value) (w:World),PW b3 b11 b12 b19 b22 b27 b28 b31 b34 b35 b38 b41 b42 b47 b48 b49 b50 b52 y11 y12 y19 y22 y27 y28 y35 y38 y41 y42 y47 y48 y49 w→w.cell? ⟨g,9,none⟩=some (.bool dead))(h10:∀(b3 b11 b12 b19 b22 b27 b28 b31 b34 b35 b38 b41 b42 b47 b48 b49 b50 b52:Bool) (y11 y12 y19 y22 y27 y28 y35 y38 y41 y42 y47 y48 y49:Value) (w:World),PW b3 b11 b12 b19 b22 b27 b28 b31 b34 b35 b38 b41 b42 b47 b48 b49 b50 b52 y11 y12 y19 y22 y27 y28 y35 y38 y41 y42 y47 y48 y49 w→w.cell? ⟨g,10,none⟩=some (.bool spent))(h11:∀(b3 b11 b12 b19 b22 b27 b28 b31 b34 b35 b38 b41 b42 b47 b48 b49 b50 b52:Bool) (y11 y12 y19 y22 y27 y28 y35 y38 y41 y42 y47 y48 y49:Value) (w:World),PW b3 b11 b12 b19 b22 b27 b28 b31 b34 b35 b38 b41 b42 b47 b48 b49 b50 b52 y11 y12 y19 y22 y27 y28 y35 y38 y41 y42 y47 y48 y49 w→w.cell? ⟨g,11,none⟩=some (av))(h12:∀(b3 b11 b12 b19 b22 b27 b28 b31 b34 b35 b38 b41 b42 b47 b48 b49 b50 b52:Bool) (y11 y12 y19 y22 y27 y28 y35 y38 y41 y42 y47 y48 y49:Value) (w:World),PW b3 b11 b12 b19 b22 b27 b28 b31 b34 b35 b38 b41 b42 b47 b48 b49 b50 b52 y11 y12 y19 y22 y27 y28 y35 y38 y41 y42 y47 y48 y49 w→w.cell? ⟨g,12,none⟩=some (.int .i64 level))(h13:∀(b3 b11 b12 b19 b22 b27 b28 b31 b34 b35 b38 b41 b42 b47 b48 b49 b50 b52:Bool) (y11 y12 y19 y22 y27 y28 y35 y38 y41 y42 y47 y48 y49:Value) (w:World),PW b3 b11 b12 b19 b22 b27 b28 b31 b34 b35 b38 b41 b42 b47 b48 b49 b50 b52 y11 y12 y19 y22 y27 y28 y35 y38 y41 y42 y47 y48 y49 w→w.cell? ⟨g,13,none⟩=some (.string ⟨sec.toArray⟩))(h14:∀(b3 b11 b12 b19 b22 b27 b28 b31 b34 b35 b38 b41 b42 b47 b48 b49 b50 b52:Bool) (y11 y12 y19 y22 y27 y28 y35 y38 y41 y42 y47 y48 y49:Value) (w:World),PW b3 b11 b12 b19 b22 b27 b28 b31 b34 b35 b38 b41 b42 b47 b48 b49 b50 b52 y11 y12 y19 y22 y27 y28 y35 y38 y41 y42 y47 y48 y49 w→w.cell? ⟨g,14,none⟩=some (.string ⟨dat.toArray⟩))(cl3:∀(b11 b19 b27 b41 b47:Bool) (y11 y12 y19 y22 y27 y28 y35 y38 y41 y42 y47 y48 y49:Value) (w:World),PW false b11 false b19 false b27 false false false false false b41 false b47 false false false false y11 y12 y19 y22 y27 y28 y35 y38 y41 y42 y47 y48 y49 w→Calls Tryz.prog 85 #[.string ⟨#[48]⟩,.int .i64 (zc:Int)] w fun e w1=>e = .returned (.string ⟨zs.toArray⟩)∧PW true b11 false b19 false b27 false false false false false b41 false b47 false false false false y11 y12 y19 y22 y27 y28 y35 y38 y41 y42 y47 y48 y49 w1)(cl11:∀(b3 b19 b27 b41 b47:Bool) (y11 y12 y19 y22 y27 y28 y35 y38 y41 y42 y47 y48 y49:Value) (w:World),PW b3 false false b19 false b27 false false false false false b41 false b47 false false false false y11 y12 y19 y22 y27 y28 y35 y38 y41 y42 y47 y48 y49 w→PW b3 true false b19 false b27 false false false false false b41 false b47 false false false false (.slice (some ⟨w.heap.size,0,none⟩) 2 2) y12 y19 y22 y27 y28 y35 y38 y41 y42 y47 y48 y49 (w.alloc (.cells #[.int .i64 kind,.int .i64 par] 3)))(cl12:∀(b19 b27 b41 b47:Bool) (y11 y12 y19 y22 y27 y28 y35 y38 y41 y42 y47 y48 y49:Value) (w:World),PW true true false b19 false b27 false false false false false b41 false b47 false false false false y11 y12 y19 y22 y27 y28 y35 y38 y41 y42 y47 y48 y49 w→Calls Tryz.prog 83 #[y11] w fun e w1=>∃v,e = .returned v∧PW true true true b19 false b27 false false false false false b41 false b47 false false false false y11 v y19 y22 y27 y28 y35 y38 y41 y42 y47 y48 y49 w1)(cl19:∀(b3 b11 b12 b22 b27 b28 b31 b34 b35 b38 b41 b42 b47:Bool) (y11 y12 y19 y22 y27 y28 y35 y38 y41 y42 y47 y48 y49:Value) (w:World),PW b3 b11 b12 false b22 b27 b28 b31 b34 b35 b38 b41 b42 b47 false false false false y11 y12 y19 y22 y27 y28 y35 y38 y41 y42 y47 y48 y49 w→PW b3 b11 b12 true b22 b27 b28 b31 b34 b35 b38 b41 b42 b47 false false false false y11 y12 (.slice (some ⟨w.heap.size,0,none⟩) 3 3) y22 y27 y28 y35 y38 y41 y42 y47 y48 y49 (w.alloc (.cells #[.string ⟨subj.toArray⟩,.string ⟨cli.toArray⟩,.string ⟨aud.toArray⟩] 9)))(cl22:∀(b19 b27 b41 b47:Bool) (y11 y12 y19 y22 y27 y28 y35 y38 y41 y42 y47 y48 y49:Value) (w:World),PW true true true b19 false b27 false false false false false b41 false b47 false false false false y11 y12 y19 y22 y27 y28 y35 y38 y41 y42 y47 y48 y49 w→Calls Tryz.prog 87 #[sv] w fun e w1=>∃v,e = .returned v∧PW true true true b19 true b27 false false false false false b41 false b47 false false false false y11 y12 y19 v y27 y28 y35 y38 y41 y42 y47 y48 y49 w1)(cl27:∀(b3 b11 b12 b19 b22 b41 b47:Bool) (y11 y12 y19 y22 y27 y28 y35 y38 y41 y42 y47 y48 y49:Value) (w:World),PW b3 b11 b12 b19 b22 false false false false false false b41 false b47 false false false false y11 y12 y19 y22 y27 y28 y35 y38 y41 y42 y47 y48 y49 w→PW b3 b11 b12 b19 b22 true false false false false false b41 false b47 false false false false y11 y12 y19 y22 (.slice (some ⟨w.heap.size,0,none⟩) 2 2) y28 y35 y38 y41 y42 y47 y48 y49 (w.alloc (.cells #[.int .i64 born,.int .i64 exp] 3)))(cl28:∀(b19 b41 b47:Bool) (y11 y12 y19 y22 y27 y28 y35 y38 y41 y42 y47 y48 y49:Value) (w:World),PW true true true b19 true true false false false false false b41 false b47 false false false false y11 y12 y19 y22 y27 y28 y35 y38 y41 y42 y47 y48 y49 w→Calls Tryz.prog 83 #[y27] w fun e w1=>∃v,e = .returned v∧PW true true true b19 true true true false false false false b41 false b47 false false false false y11 y12 y19 y22 y27 v y35 y38 y41 y42 y47 y48 y49 w1)(cl31:∀(b19 b41 b47:Bool) (y11 y12 y19 y22 y27 y28 y35 y38 y41 y42 y47 y48 y49:Value) (w:World),PW true true true b19 true true true false false false false b41 false b47 false false false false y11 y12 y19 y22 y27 y28 y35 y38 y41 y42 y47 y48 y49 w→Calls Tryz.prog 88 #[.bool dead] w fun e w1=>e = .returned (.string ⟨(flagT dead).toArray⟩)∧PW true true true b19 true true true true false false false b41 false b47 false false false false y11 y12 y19 y22 y27 y28 y35 y38 y41 y42 y47 y48 y49 w1)(cl34:∀(b19 b41 b47:Bool) (y11 y12 y19 y22 y27 y28 y35 y38 y41 y42 y47 y48 y49:Value) (w:World),PW true true true b19 true true true true false false false b41 false b47 false false false false y11 y12 y19 y22 y27 y28 y35 y38 y41 y42 y47 y48 y49 w→Calls Tryz.prog 88 #[.bool spent] w fun e w1=>e = .returned (.string ⟨(flagT spent).toArray⟩)∧PW true true true b19 true true true true true false false b41 false b47 false false false false y11 y12 y19 y22 y27 y28 y35 y38 y41 y42 y47 y48 y49 w1)(cl35:∀(b19 b38 b41 b42 b47:Bool) (y11 y12 y19 y22 y27 y28 y35 y38 y41 y42 y47 y48 y49:Value) (w:World),PW true true true b19 true true true true true false b38 b41 b42 b47 false false false false y11 y12 y19 y22 y27 y28 y35 y38 y41 y42 y47 y48 y49 w→PW true true true b19 true true true true true true b38 b41 b42 b47 false false false false y11 y12 y19 y22 y27 y28 (.slice (some ⟨w.heap.size,0,none⟩) 2 2) y38 y41 y42 y47 y48 y49 (w.alloc (.cells #[.string ⟨(flagT dead).toArray⟩,.string ⟨(flagT spent).toArray⟩] 9)))(cl38:∀(b19 b35 b41 b47:Bool) (y11 y12 y19 y22 y27 y28 y35 y38 y41 y42 y47 y48 y49:Value) (w:World),PW true true true b19 true true true true true b35 false b41 false b47 false false false false y11 y12 y19 y22 y27 y28 y35 y38 y41 y42 y47 y48 y49 w→Calls Tryz.prog 87 #[av] w fun e w1=>∃v,e = .returned v∧PW true true true b19 true true true true true b35 true b41 false b47 false false false false y11 y12 y19 y22 y27 y28 y35 v y41 y42 y47 y48 y49 w1)(cl41:∀(b3 b11 b12 b19 b22 b27 b28 b31 b34 b35 b38 b47:Bool) (y11 y12 y19 y22 y27 y28 y35 y38 y41 y42 y47 y48 y49:Value) (w:World),PW b3 b11 b12 b19 b22 b27 b28 b31 b34 b35 b38 false false b47 false false false false y11 y12 y19 y22 y27 y28 y35 y38 y41 y42 y47 y48 y49 w→PW b3 b11 b12 b19 b22 b27 b28 b31 b34 b35 b38 true false b47 false false false false y11 y12 y19 y22 y27 y28 y35 y38 (.slice (some ⟨w.heap.size,0,none⟩) 1 1) y42 y47 y48 y49 (w.alloc (.cells #[.int .i64 level] 3)))(cl42:∀(b19 b35 b47:Bool) (y11 y12 y19 y22 y27 y28 y35 y38 y41 y42 y47 y48 y49:Value) (w:World),PW true true true b19 true true true true true b35 true true false b47 false false false false y11 y12 y19 y22 y27 y28 y35 y38 y41 y42 y47 y48 y49 w→Calls Tryz.prog 83 #[y41] w fun e w1=>∃v,e = .returned v∧PW true true true b19 true true true true true b35 true true true b47 false false false false y11 y12 y19 y22 y27 y28 y35 y38 y41 v y47 y48 y49 w1)(cl47:∀(b3 b11 b12 b19 b22 b27 b28 b31 b34 b35 b38 b41 b42:Bool) (y11 y12 y19 y22 y27 y28 y35 y38 y41 y42 y47 y48 y49:Value) (w:World),PW b3 b11 b12 b19 b22 b27 b28 b31 b34 b35 b38 b41 b42 false false false false false y11 y12 y19 y22 y27 y28 y35 y38 y41 y42 y47 y48 y49 w→PW b3 b11 b12 b19 b22 b27 b28 b31 b34 b35 b38 b41 b42 true false false false false y11 y12 y19 y22 y27 y28 y35 y38 y41 y42 (.slice (some ⟨w.heap.size,0,none⟩) 2 2) y48 y49 (w.alloc (.cells #[.string ⟨sec.toArray⟩,.string ⟨dat.toArray⟩] 9)))(cl48:∀(y11 y12 y19 y22 y27 y28 y35 y38 y41 y42 y47 y48 y49:Value) (w:World),PW true true true true true true true true true true true true true true false false false false y11 y12 y19 y22 y27 y28 y35 y38 y41 y42 y47 y48 y49 w→(∃a n c,y12 = .slice a n c)∧(∃a n c,y19 = .slice a n c)∧(∃a n c,y22 = .slice a n c)∧(∃a n c,y28 = .slice a n c)∧(∃a n c,y35 = .slice a n c)∧(∃a n c,y38 = .slice a n c)∧(∃a n c,y42 = .slice a n c)∧(∃a n c,y47 = .slice a n c)∧PW true true true true true true true true true true true true true true true false false false y11 y12 y19 y22 y27 y28 y35 y38 y41 y42 y47 (.slice (some ⟨w.heap.size,0,none⟩) 8 8) y49 (w.alloc (.cells #[y12,y19,y22,y28,y35,y38,y42,y47] 29)))(cl49:∀(y11 y12 y19 y22 y27 y28 y35 y38 y41 y42 y47 y48 y49:Value) (w:World),PW true true true true true true true true true true true true true true true false false false y11 y12 y19 y22 y27 y28 y35 y38 y41 y42 y47 y48 y49 w→Calls Tryz.prog 86 #[y48] w fun e w1=>∃v,e = .returned v∧PW true true true true true true true true true true true true true true true true false false y11 y12 y19 y22 y27 y28 y35 y38 y41 y42 y47 y48 v w1)(cl50:∀(y11 y12 y19 y22 y27 y28 y35 y38 y41 y42 y47 y48 y49:Value) (w:World),PW true true true true true true true true true true true true true true true true false false y11 y12 y19 y22 y27 y28 y35 y38 y41 y42 y47 y48 y49 w→Calls Tryz.prog 82 #[y49] w fun e w1=>e = .returned (.string ⟨fv.toArray⟩)∧PW true true true true true true true true true true true true true true true true true false y11 y12 y19 y22 y27 y28 y35 y38 y41 y42 y47 y48 y49 w1)(cl52:∀(y11 y12 y19 y22 y27 y28 y35 y38 y41 y42 y47 y48 y49:Value) (w:World),PW true true true true true true true true true true true true true true true true true false y11 y12 y19 y22 y27 y28 y35 y38 y41 y42 y47 y48 y49 w→(∃cv,w.cell? ⟨pb,0,none⟩=some cv)∧(∃cv,w.cell? ⟨pb,1,none⟩=some cv)∧w.frozen? ⟨pb,0,none⟩=false∧w.frozen? ⟨pb,1,none⟩=false∧PW true true true true true true true true true true true true true true true true true true y11 y12 y19 y22 y27 y28 y35 y38 y41 y42 y47 y48 y49 ((w.setCell ⟨pb,0,none⟩ (.string ⟨(([110,111,100,101,47]++zs)++idt).toArray⟩)).setCell ⟨pb,1,none⟩ (.string ⟨fv.toArray⟩)))(hzc:idt.length+zc=8)(hz8:zs.length≤8)(hi8:idt.length≤8){t0 t4 t5 t6 t7 t8 t9 t10 t11 t12 t13 t14 t15 t16 t17 t18 t19 t20 t21 t22 t23 t24 t25 t26 t27 t28 t29 t30 t31 t32 t33 t34 t35 t36 t37 t38 t39 t40 t41 t42 t43 t44 t45 t46 t47 t48 t49 t50 t51 t52 t53 t54 t55 t56 t57 t58:Value}(w0:PW false false false false false false false false false false false false false false false false false false t18 t19 t26 t29 t34 t35 t42 t45 t48 t49 t54 t55 t56 w.drew){ds:List Deferred}{Q:Exit→Act→World→Prop}
  (h:∀(y11 y12 y19 y22 y27 y28 y35 y38 y41 y42 y47 y48 y49:Value) (w1:World),PW true true true true true true true true true true true true true true true true true true y11 y12 y19 y22 y27 y28 y35 y38 y41 y42 y47 y48 y49 w1→Q .normal {tmps:=#[t0,.pointer (some ⟨g,0,none⟩),.pointer (some ⟨pb,0,none⟩),.string ⟨idt.toArray⟩,t4,t5,t6,.string ⟨idt.toArray⟩,.int .i64 (idt.length:Int),.int .i64 (zc:Int),.string ⟨zs.toArray⟩,.string ⟨([110,111,100,101,47]++zs).toArray⟩,.string ⟨idt.toArray⟩,.string ⟨(([110,111,100,101,47]++zs)++idt).toArray⟩,.pointer (some ⟨g,1,none⟩),.int .i64 kind,.pointer (some ⟨g,2,none⟩),.int .i64 par,y11,y12,.pointer (some ⟨g,3,none⟩),.string ⟨subj.toArray⟩,.pointer (some ⟨g,4,none⟩),.string ⟨cli.toArray⟩,.pointer (some ⟨g,5,none⟩),.string ⟨aud.toArray⟩,y19,.pointer (some ⟨g,6,none⟩),sv,y22,.pointer (some ⟨g,7,none⟩),.int .i64 born,.pointer (some ⟨g,8,none⟩),.int .i64 exp,y27,y28,.pointer (some ⟨g,9,none⟩),.bool dead,.string ⟨(flagT dead).toArray⟩,.pointer (some ⟨g,10,none⟩),.bool spent,.string ⟨(flagT spent).toArray⟩,y35,.pointer (some ⟨g,11,none⟩),av,y38,.pointer (some ⟨g,12,none⟩),.int .i64 level,y41,y42,.pointer (some ⟨g,13,none⟩),.string ⟨sec.toArray⟩,.pointer (some ⟨g,14,none⟩),.string ⟨dat.toArray⟩,y47,y48,y49,.string ⟨fv.toArray⟩,.agg #[.string ⟨(([110,111,100,101,47]++zs)++idt).toArray⟩,.string ⟨fv.toArray⟩]],defers:=ds} w1) :
  (Code.region 2 nrRO true).wp Tryz.prog Q {tmps:=#[t0,.pointer (some ⟨g,0,none⟩),.pointer (some ⟨pb,0,none⟩),.string ⟨idt.toArray⟩,t4,t5,t6,t7,t8,t9,t10,t11,t12,t13,t14,t15,t16,t17,t18,t19,t20,t21,t22,t23,t24,t25,t26,t27,t28,t29,t30,t31,t32,t33,t34,t35,t36,t37,t38,t39,t40,t41,t42,t43,t44,t45,t46,t47,t48,t49,t50,t51,t52,t53,t54,t55,t56,t57,t58],defers:=ds} w:=by
 have hsz:nrRO.size=53:=by kernel_rfl
 generalize hT:List.toArray _=T0
 have hs:T0.size=59:=by subst hT;rfl
 have g1:T0.getD 1 undef = .pointer (some ⟨g,0,none⟩):=by subst hT;rfl
 have g2:T0.getD 2 undef = .pointer (some ⟨pb,0,none⟩):=by subst hT;rfl
 have g3:T0.getD 3 undef = .string ⟨idt.toArray⟩:=by subst hT;rfl
 obtain⟨W,hV⟩:∃W:List ((Nat×(Value→Value)) ⊕ Value),W=[.inr (.string ⟨idt.toArray⟩),.inr (.int .i64 (idt.length:Int)),.inr (.int .i64 (zc:Int)),.inr (.string ⟨zs.toArray⟩),.inr (.string ⟨([110,111,100,101,47]++zs).toArray⟩),.inr (.string ⟨idt.toArray⟩),.inr (.string ⟨(([110,111,100,101,47]++zs)++idt).toArray⟩),.inr (.pointer (some ⟨g,1,none⟩)),.inr (.int .i64 kind),.inr (.pointer (some ⟨g,2,none⟩)),.inr (.int .i64 par),.inl (11,id),.inl (12,id),.inr (.pointer (some ⟨g,3,none⟩)),.inr (.string ⟨subj.toArray⟩),.inr (.pointer (some ⟨g,4,none⟩)),.inr (.string ⟨cli.toArray⟩),.inr (.pointer (some ⟨g,5,none⟩)),.inr (.string ⟨aud.toArray⟩),.inl (19,id),.inr (.pointer (some ⟨g,6,none⟩)),.inr (sv),.inl (22,id),.inr (.pointer (some ⟨g,7,none⟩)),.inr (.int .i64 born),.inr (.pointer (some ⟨g,8,none⟩)),.inr (.int .i64 exp),.inl (27,id),.inl (28,id),.inr (.pointer (some ⟨g,9,none⟩)),.inr (.bool dead),.inr (.string ⟨(flagT dead).toArray⟩),.inr (.pointer (some ⟨g,10,none⟩)),.inr (.bool spent),.inr (.string ⟨(flagT spent).toArray⟩),.inl (35,id),.inr (.pointer (some ⟨g,11,none⟩)),.inr (av),.inl (38,id),.inr (.pointer (some ⟨g,12,none⟩)),.inr (.int .i64 level),.inl (41,id),.inl (42,id),.inr (.pointer (some ⟨g,13,none⟩)),.inr (.string ⟨sec.toArray⟩),.inr (.pointer (some ⟨g,14,none⟩)),.inr (.string ⟨dat.toArray⟩),.inl (47,id),.inl (48,id),.inl (49,id),.inr (.string ⟨fv.toArray⟩),.inr (.agg #[.string ⟨(([110,111,100,101,47]++zs)++idt).toArray⟩,.string ⟨fv.toArray⟩]),.inr undef]:=⟨_,rfl⟩
 refine wp_plan (by kernel_rfl) T0 ds [3,11,12,19,22,27,28,31,34,35,38,41,42,47,48,49,50,52] nrR_m (mkV W) (fun dx yx wx=>PW (dx 3) (dx 11) (dx 12) (dx 19) (dx 22) (dx 27) (dx 28) (dx 31) (dx 34) (dx 35) (dx 38) (dx 41) (dx 42) (dx 47) (dx 48) (dx 49) (dx 50) (dx 52) (yx 11) (yx 12) (yx 19) (yx 22) (yx 27) (yx 28) (yx 35) (yx 38) (yx 41) (yx 42) (yx 47) (yx 48) (yx 49) wx) w (by rw [hs];kernel_rfl) (by kernel_rfl) (by kernel_rfl) (by rw [hsz];decide) (fun cx hc ix hne ha yx vx=>mkV_fix (by rw [hV];kernel_rfl) hne ha yx vx) (?key) (fun cx hc ox ho dx yx Tx wx hd hdb hda hK hW=>?_) ⟨fun k=>if k=11 then t18 else if k=12 then t19 else if k=19 then t26 else if k=22 then t29 else if k=27 then t34 else if k=28 then t35 else if k=35 then t42 else if k=38 then t45 else if k=41 then t48 else if k=42 then t49 else if k=47 then t54 else if k=48 then t55 else if k=49 then t56 else undef,w0⟩ (fun dx yx wx hd hW=>?_)
 case key=>
  rw [hsz]
  refine all_step (all_step (all_step (all_step (all_step (all_step (all_step (all_step (all_step (all_step (all_step (all_step (all_step (all_step (all_step (all_step (all_step (all_step (all_step (all_step (all_step (all_step (all_step (all_step (all_step (all_step (all_step (all_step (all_step (all_step (all_step (all_step (all_step (all_step (all_step (all_step (all_step (all_step (all_step (all_step (all_step (all_step (all_step (all_step (all_step (all_step (all_step (all_step (all_step (all_step (all_step (all_step (all_step all_zero ?_) ?_) ?_) ?_) ?_) ?_) ?_) ?_) ?_) ?_) ?_) ?_) ?_) ?_) ?_) ?_) ?_) ?_) ?_) ?_) ?_) ?_) ?_) ?_) ?_) ?_) ?_) ?_) ?_) ?_) ?_) ?_) ?_) ?_) ?_) ?_) ?_) ?_) ?_) ?_) ?_) ?_) ?_) ?_) ?_) ?_) ?_) ?_) ?_) ?_) ?_) ?_) ?_
  all_goals
   intro ox ho hic dx yx Tx wx hdb hK hW
   replace hdb:=Lib.hid hdb
  ·exact pl0 7 3 9 ho hK (by kernel_rfl) (by kernel_rfl) g3 (by subst hV;rfl) fun ps af e=>k_mv e
  ·obtain⟨ps,af,rfl⟩:=core (some 8) (.call {callee:= .builtin Builtin.len,args:=#[.tmp 7],argTypes:=#[9]}) 3 none ho (by kernel_rfl)
   have e7:Tx.getD 7 undef = .string ⟨idt.toArray⟩:=hK.is 0 ho (by kernel_rfl) (by subst hV;rfl)
   exact wpOp_plain ho rfl (by subst hV;exact k_len9 (by first | exact e7 | rfl))
  ·obtain⟨ps,af,rfl⟩:=core (some 9) (.binOp BinOp.sub 3 (.const (Value.int IntKind.i64 8)) (.tmp 8) 3) 3 none ho (by kernel_rfl)
   have e8:Tx.getD 8 undef = .int .i64 (idt.length:Int):=hK.is 1 ho (by kernel_rfl) (by subst hV;rfl)
   exact wpOp_plain ho rfl (by subst hV;exact k_sub8 hzc (by first | exact e8 | rfl))
  ·exact absurd (by decide) hic
  ·obtain⟨ps,af,rfl⟩:=core (some 11) (.binOp BinOp.add 9 (.const (Value.string {data:=#[110,111,100,101,47]})) (.tmp 10) 9) 9 none ho (by kernel_rfl)
   have e10:Tx.getD 10 undef = .string ⟨zs.toArray⟩:=hK.is 3 ho (by kernel_rfl) (by subst hV;rfl)
   exact wpOp_plain ho rfl (by subst hV;exact k_catc hz8 (by first | exact e10 | rfl))
  ·exact pl0 12 3 9 ho hK (by kernel_rfl) (by kernel_rfl) g3 (by subst hV;rfl) fun ps af e=>k_mv e
  ·obtain⟨ps,af,rfl⟩:=core (some 13) (.binOp BinOp.add 9 (.tmp 11) (.tmp 12) 9) 9 none ho (by kernel_rfl)
   have e11:Tx.getD 11 undef = .string ⟨([110,111,100,101,47]++zs).toArray⟩:=hK.is 4 ho (by kernel_rfl) (by subst hV;rfl)
   have e12:Tx.getD 12 undef = .string ⟨idt.toArray⟩:=hK.is 5 ho (by kernel_rfl) (by subst hV;rfl)
   exact wpOp_plain ho rfl (by subst hV;exact k_cat2 hz8 hi8 (by first | exact e11 | rfl) (by first | exact e12 | rfl))
  ·exact pl0 14 1 0 ho hK (by kernel_rfl) (by kernel_rfl) g1 (by subst hV;rfl) fun ps af e=>k_fa31_1 e
  ·exact pl1 15 14 7 3 ho hK (by kernel_rfl) (by kernel_rfl) (by subst hV;rfl) (by subst hV;rfl) fun ps af e=>k_ld3 (h1 _ _ _ _ _ _ _ _ _ _ _ _ _ _ _ _ _ _ _ _ _ _ _ _ _ _ _ _ _ _ _ _ hW) e
  ·exact pl0 16 1 0 ho hK (by kernel_rfl) (by kernel_rfl) g1 (by subst hV;rfl) fun ps af e=>k_fa31_2 e
  ·exact pl1 17 16 9 3 ho hK (by kernel_rfl) (by kernel_rfl) (by subst hV;rfl) (by subst hV;rfl) fun ps af e=>k_ld3 (h2 _ _ _ _ _ _ _ _ _ _ _ _ _ _ _ _ _ _ _ _ _ _ _ _ _ _ _ _ _ _ _ _ hW) e
  ·exact absurd (by decide) hic
  ·exact absurd (by decide) hic
  ·exact pl0 20 1 0 ho hK (by kernel_rfl) (by kernel_rfl) g1 (by subst hV;rfl) fun ps af e=>k_fa31_3 e
  ·exact pl1 21 20 13 9 ho hK (by kernel_rfl) (by kernel_rfl) (by subst hV;rfl) (by subst hV;rfl) fun ps af e=>k_ld9 (h3 _ _ _ _ _ _ _ _ _ _ _ _ _ _ _ _ _ _ _ _ _ _ _ _ _ _ _ _ _ _ _ _ hW) e
  ·exact pl0 22 1 0 ho hK (by kernel_rfl) (by kernel_rfl) g1 (by subst hV;rfl) fun ps af e=>k_fa31_4 e
  ·exact pl1 23 22 15 9 ho hK (by kernel_rfl) (by kernel_rfl) (by subst hV;rfl) (by subst hV;rfl) fun ps af e=>k_ld9 (h4 _ _ _ _ _ _ _ _ _ _ _ _ _ _ _ _ _ _ _ _ _ _ _ _ _ _ _ _ _ _ _ _ hW) e
  ·exact pl0 24 1 0 ho hK (by kernel_rfl) (by kernel_rfl) g1 (by subst hV;rfl) fun ps af e=>k_fa31_5 e
  ·exact pl1 25 24 17 9 ho hK (by kernel_rfl) (by kernel_rfl) (by subst hV;rfl) (by subst hV;rfl) fun ps af e=>k_ld9 (h5 _ _ _ _ _ _ _ _ _ _ _ _ _ _ _ _ _ _ _ _ _ _ _ _ _ _ _ _ _ _ _ _ hW) e
  ·exact absurd (by decide) hic
  ·exact pl0 27 1 0 ho hK (by kernel_rfl) (by kernel_rfl) g1 (by subst hV;rfl) fun ps af e=>k_fa31_6 e
  ·exact pl1 28 27 20 29 ho hK (by kernel_rfl) (by kernel_rfl) (by subst hV;rfl) (by subst hV;rfl) fun ps af e=>k_ld29 (h6 _ _ _ _ _ _ _ _ _ _ _ _ _ _ _ _ _ _ _ _ _ _ _ _ _ _ _ _ _ _ _ _ hW) e
  ·exact absurd (by decide) hic
  ·exact pl0 30 1 0 ho hK (by kernel_rfl) (by kernel_rfl) g1 (by subst hV;rfl) fun ps af e=>k_fa31_7 e
  ·exact pl1 31 30 23 3 ho hK (by kernel_rfl) (by kernel_rfl) (by subst hV;rfl) (by subst hV;rfl) fun ps af e=>k_ld3 (h7 _ _ _ _ _ _ _ _ _ _ _ _ _ _ _ _ _ _ _ _ _ _ _ _ _ _ _ _ _ _ _ _ hW) e
  ·exact pl0 32 1 0 ho hK (by kernel_rfl) (by kernel_rfl) g1 (by subst hV;rfl) fun ps af e=>k_fa31_8 e
  ·exact pl1 33 32 25 3 ho hK (by kernel_rfl) (by kernel_rfl) (by subst hV;rfl) (by subst hV;rfl) fun ps af e=>k_ld3 (h8 _ _ _ _ _ _ _ _ _ _ _ _ _ _ _ _ _ _ _ _ _ _ _ _ _ _ _ _ _ _ _ _ hW) e
  ·exact absurd (by decide) hic
  ·exact absurd (by decide) hic
  ·exact pl0 36 1 0 ho hK (by kernel_rfl) (by kernel_rfl) g1 (by subst hV;rfl) fun ps af e=>k_fa31_9 e
  ·exact pl1 37 36 29 4 ho hK (by kernel_rfl) (by kernel_rfl) (by subst hV;rfl) (by subst hV;rfl) fun ps af e=>k_ld4 (h9 _ _ _ _ _ _ _ _ _ _ _ _ _ _ _ _ _ _ _ _ _ _ _ _ _ _ _ _ _ _ _ _ hW) e
  ·exact absurd (by decide) hic
  ·exact pl0 39 1 0 ho hK (by kernel_rfl) (by kernel_rfl) g1 (by subst hV;rfl) fun ps af e=>k_fa31_10 e
  ·exact pl1 40 39 32 4 ho hK (by kernel_rfl) (by kernel_rfl) (by subst hV;rfl) (by subst hV;rfl) fun ps af e=>k_ld4 (h10 _ _ _ _ _ _ _ _ _ _ _ _ _ _ _ _ _ _ _ _ _ _ _ _ _ _ _ _ _ _ _ _ hW) e
  ·exact absurd (by decide) hic
  ·exact absurd (by decide) hic
  ·exact pl0 43 1 0 ho hK (by kernel_rfl) (by kernel_rfl) g1 (by subst hV;rfl) fun ps af e=>k_fa31_11 e
  ·exact pl1 44 43 36 29 ho hK (by kernel_rfl) (by kernel_rfl) (by subst hV;rfl) (by subst hV;rfl) fun ps af e=>k_ld29 (h11 _ _ _ _ _ _ _ _ _ _ _ _ _ _ _ _ _ _ _ _ _ _ _ _ _ _ _ _ _ _ _ _ hW) e
  ·exact absurd (by decide) hic
  ·exact pl0 46 1 0 ho hK (by kernel_rfl) (by kernel_rfl) g1 (by subst hV;rfl) fun ps af e=>k_fa31_12 e
  ·exact pl1 47 46 39 3 ho hK (by kernel_rfl) (by kernel_rfl) (by subst hV;rfl) (by subst hV;rfl) fun ps af e=>k_ld3 (h12 _ _ _ _ _ _ _ _ _ _ _ _ _ _ _ _ _ _ _ _ _ _ _ _ _ _ _ _ _ _ _ _ hW) e
  ·exact absurd (by decide) hic
  ·exact absurd (by decide) hic
  ·exact pl0 50 1 0 ho hK (by kernel_rfl) (by kernel_rfl) g1 (by subst hV;rfl) fun ps af e=>k_fa31_13 e
  ·exact pl1 51 50 43 9 ho hK (by kernel_rfl) (by kernel_rfl) (by subst hV;rfl) (by subst hV;rfl) fun ps af e=>k_ld9 (h13 _ _ _ _ _ _ _ _ _ _ _ _ _ _ _ _ _ _ _ _ _ _ _ _ _ _ _ _ _ _ _ _ hW) e
  ·exact pl0 52 1 0 ho hK (by kernel_rfl) (by kernel_rfl) g1 (by subst hV;rfl) fun ps af e=>k_fa31_14 e
  ·exact pl1 53 52 45 9 ho hK (by kernel_rfl) (by kernel_rfl) (by subst hV;rfl) (by subst hV;rfl) fun ps af e=>k_ld9 (h14 _ _ _ _ _ _ _ _ _ _ _ _ _ _ _ _ _ _ _ _ _ _ _ _ _ _ _ _ _ _ _ _ hW) e
  ·exact absurd (by decide) hic
  ·exact absurd (by decide) hic
  ·exact absurd (by decide) hic
  ·exact absurd (by decide) hic
  ·obtain⟨ps,af,rfl⟩:=core (some 58) (.build 47 #[(0,.tmp 13),(1,.tmp 57)]) 47 none ho (by kernel_rfl)
   have e13:Tx.getD 13 undef = .string ⟨(([110,111,100,101,47]++zs)++idt).toArray⟩:=hK.is 6 ho (by kernel_rfl) (by subst hV;rfl)
   have e57:Tx.getD 57 undef = .string ⟨fv.toArray⟩:=hK.is 50 ho (by kernel_rfl) (by subst hV;rfl)
   simp only [Array.getD_eq_getD_getElem?] at e13 e57
   exact wpOp_plain ho rfl (by subst hV;go_simp;try rfl)
  ·exact absurd (by decide) hic
 ·have hcase:cx=3∨cx=11∨cx=12∨cx=19∨cx=22∨cx=27∨cx=28∨cx=31∨cx=34∨cx=35∨cx=38∨cx=41∨cx=42∨cx=47∨cx=48∨cx=49∨cx=50∨cx=52:=by simpa using hc
  rcases hcase with rfl | rfl | rfl | rfl | rfl | rfl | rfl | rfl | rfl | rfl | rfl | rfl | rfl | rfl | rfl | rfl | rfl | rfl
  ·obtain⟨ps,af,rfl⟩:=core (some 10) (.call {callee:= .value (.func 85),args:=#[.const (Value.string {data:=#[48]}),.tmp 9],argTypes:=#[9,3]}) 9 none ho (by kernel_rfl)
   have e9:Tx.getD 9 undef = .int .i64 (zc:Int):=hK.is 2 ho (by kernel_rfl) (by subst hV;rfl)
   have hW1:PW (dx 3) (dx 11) (dx 12) (dx 19) (dx 22) (dx 27) (dx 28) (dx 31) (dx 34) (dx 35) (dx 38) (dx 41) (dx 42) (dx 47) (dx 48) (dx 49) (dx 50) (dx 52) (yx 11) (yx 12) (yx 19) (yx 22) (yx 27) (yx 28) (yx 35) (yx 38) (yx 41) (yx 42) (yx 47) (yx 48) (yx 49) wx:=hW
   have f12:=hda 12 (by decide) (by kernel_rfl)
   have f22:=hda 22 (by decide) (by kernel_rfl)
   have f28:=hda 28 (by decide) (by kernel_rfl)
   have f31:=hda 31 (by decide) (by kernel_rfl)
   have f34:=hda 34 (by decide) (by kernel_rfl)
   have f35:=hda 35 (by decide) (by kernel_rfl)
   have f38:=hda 38 (by decide) (by kernel_rfl)
   have f42:=hda 42 (by decide) (by kernel_rfl)
   have f48:=hda 48 (by decide) (by kernel_rfl)
   have f49:=hda 49 (by decide) (by kernel_rfl)
   have f50:=hda 50 (by decide) (by kernel_rfl)
   have f52:=hda 52 (by decide) (by kernel_rfl)
   clear hdb hda
   rw [hd,f12,f22,f28,f31,f34,f35,f38,f42,f48,f49,f50,f52] at hW1
   replace f12:=Lib.hid f12
   replace f22:=Lib.hid f22
   replace f28:=Lib.hid f28
   replace f31:=Lib.hid f31
   replace f34:=Lib.hid f34
   replace f35:=Lib.hid f35
   replace f38:=Lib.hid f38
   replace f42:=Lib.hid f42
   replace f48:=Lib.hid f48
   replace f49:=Lib.hid f49
   replace f50:=Lib.hid f50
   replace f52:=Lib.hid f52
   clear hd hW hc
   refine wpOp_plain ho rfl ?_
   go_simp
   go_at_call 85
   refine(cl3 _ _ _ _ _ _ _ _ _ _ _ _ _ _ _ _ _ _ _ hW1).mono ?_
   rintro ex w2 ⟨rfl,hW2⟩
   subst hV
   first | refine⟨undef,rfl,?_⟩ | refine⟨⟨undef,rfl⟩,?_⟩
   simpa [updB,upd,f12.out,f22.out,f28.out,f31.out,f34.out,f35.out,f38.out,f42.out,f48.out,f49.out,f50.out,f52.out] using hW2
  ·obtain⟨ps,af,rfl⟩:=core (some 18) (.buildSlice 55 2 #[(0,.tmp 15),(1,.tmp 17)]) 55 none ho (by kernel_rfl)
   have e15:Tx.getD 15 undef = .int .i64 kind:=hK.is 8 ho (by kernel_rfl) (by subst hV;rfl)
   have e17:Tx.getD 17 undef = .int .i64 par:=hK.is 10 ho (by kernel_rfl) (by subst hV;rfl)
   have hW1:PW (dx 3) (dx 11) (dx 12) (dx 19) (dx 22) (dx 27) (dx 28) (dx 31) (dx 34) (dx 35) (dx 38) (dx 41) (dx 42) (dx 47) (dx 48) (dx 49) (dx 50) (dx 52) (yx 11) (yx 12) (yx 19) (yx 22) (yx 27) (yx 28) (yx 35) (yx 38) (yx 41) (yx 42) (yx 47) (yx 48) (yx 49) wx:=hW
   have f12:=hda 12 (by decide) (by kernel_rfl)
   have f22:=hda 22 (by decide) (by kernel_rfl)
   have f28:=hda 28 (by decide) (by kernel_rfl)
   have f31:=hda 31 (by decide) (by kernel_rfl)
   have f34:=hda 34 (by decide) (by kernel_rfl)
   have f35:=hda 35 (by decide) (by kernel_rfl)
   have f38:=hda 38 (by decide) (by kernel_rfl)
   have f42:=hda 42 (by decide) (by kernel_rfl)
   have f48:=hda 48 (by decide) (by kernel_rfl)
   have f49:=hda 49 (by decide) (by kernel_rfl)
   have f50:=hda 50 (by decide) (by kernel_rfl)
   have f52:=hda 52 (by decide) (by kernel_rfl)
   clear hdb hda
   rw [hd,f12,f22,f28,f31,f34,f35,f38,f42,f48,f49,f50,f52] at hW1
   replace f12:=Lib.hid f12
   replace f22:=Lib.hid f22
   replace f28:=Lib.hid f28
   replace f31:=Lib.hid f31
   replace f34:=Lib.hid f34
   replace f35:=Lib.hid f35
   replace f38:=Lib.hid f38
   replace f42:=Lib.hid f42
   replace f48:=Lib.hid f48
   replace f49:=Lib.hid f49
   replace f50:=Lib.hid f50
   replace f52:=Lib.hid f52
   clear hd hW hc
   have hW2:=cl11 _ _ _ _ _ _ _ _ _ _ _ _ _ _ _ _ _ _ _ hW1
   simp only [Array.getD_eq_getD_getElem?] at e15 e17
   subst hV
   refine wpOp_plain ho rfl ?_
   go_simp
   refine⟨_,rfl,?_⟩
   simpa [updB,upd,f12.out,f22.out,f28.out,f31.out,f34.out,f35.out,f38.out,f42.out,f48.out,f49.out,f50.out,f52.out] using hW2
  ·obtain⟨ps,af,rfl⟩:=core (some 19) (.call {callee:= .value (.func 83),args:=#[.tmp 18],argTypes:=#[55]}) 29 none ho (by kernel_rfl)
   have e18:Tx.getD 18 undef=yx 11:=hK.is 11 ho (by kernel_rfl) (by subst hV;rfl)
   have hW1:PW (dx 3) (dx 11) (dx 12) (dx 19) (dx 22) (dx 27) (dx 28) (dx 31) (dx 34) (dx 35) (dx 38) (dx 41) (dx 42) (dx 47) (dx 48) (dx 49) (dx 50) (dx 52) (yx 11) (yx 12) (yx 19) (yx 22) (yx 27) (yx 28) (yx 35) (yx 38) (yx 41) (yx 42) (yx 47) (yx 48) (yx 49) wx:=hW
   have f3:=hdb 3 (by decide) (by kernel_rfl)
   have f11:=hdb 11 (by decide) (by kernel_rfl)
   have f22:=hda 22 (by decide) (by kernel_rfl)
   have f28:=hda 28 (by decide) (by kernel_rfl)
   have f31:=hda 31 (by decide) (by kernel_rfl)
   have f34:=hda 34 (by decide) (by kernel_rfl)
   have f35:=hda 35 (by decide) (by kernel_rfl)
   have f38:=hda 38 (by decide) (by kernel_rfl)
   have f42:=hda 42 (by decide) (by kernel_rfl)
   have f48:=hda 48 (by decide) (by kernel_rfl)
   have f49:=hda 49 (by decide) (by kernel_rfl)
   have f50:=hda 50 (by decide) (by kernel_rfl)
   have f52:=hda 52 (by decide) (by kernel_rfl)
   clear hdb hda
   rw [hd,f3,f11,f22,f28,f31,f34,f35,f38,f42,f48,f49,f50,f52] at hW1
   replace f3:=Lib.hid f3
   replace f11:=Lib.hid f11
   replace f22:=Lib.hid f22
   replace f28:=Lib.hid f28
   replace f31:=Lib.hid f31
   replace f34:=Lib.hid f34
   replace f35:=Lib.hid f35
   replace f38:=Lib.hid f38
   replace f42:=Lib.hid f42
   replace f48:=Lib.hid f48
   replace f49:=Lib.hid f49
   replace f50:=Lib.hid f50
   replace f52:=Lib.hid f52
   clear hd hW hc
   refine wpOp_plain ho rfl ?_
   go_simp
   go_at_call 83
   refine(cl12 _ _ _ _ _ _ _ _ _ _ _ _ _ _ _ _ _ _ hW1).mono ?_
   rintro ex w2 ⟨vx,rfl,hW2⟩
   subst hV
   refine⟨vx,rfl,?_⟩
   simpa [updB,upd,f3.out,f11.out,f22.out,f28.out,f31.out,f34.out,f35.out,f38.out,f42.out,f48.out,f49.out,f50.out,f52.out] using hW2
  ·obtain⟨ps,af,rfl⟩:=core (some 26) (.buildSlice 29 3 #[(0,.tmp 21),(1,.tmp 23),(2,.tmp 25)]) 29 none ho (by kernel_rfl)
   have e21:Tx.getD 21 undef = .string ⟨subj.toArray⟩:=hK.is 14 ho (by kernel_rfl) (by subst hV;rfl)
   have e23:Tx.getD 23 undef = .string ⟨cli.toArray⟩:=hK.is 16 ho (by kernel_rfl) (by subst hV;rfl)
   have e25:Tx.getD 25 undef = .string ⟨aud.toArray⟩:=hK.is 18 ho (by kernel_rfl) (by subst hV;rfl)
   have hW1:PW (dx 3) (dx 11) (dx 12) (dx 19) (dx 22) (dx 27) (dx 28) (dx 31) (dx 34) (dx 35) (dx 38) (dx 41) (dx 42) (dx 47) (dx 48) (dx 49) (dx 50) (dx 52) (yx 11) (yx 12) (yx 19) (yx 22) (yx 27) (yx 28) (yx 35) (yx 38) (yx 41) (yx 42) (yx 47) (yx 48) (yx 49) wx:=hW
   have f48:=hda 48 (by decide) (by kernel_rfl)
   have f49:=hda 49 (by decide) (by kernel_rfl)
   have f50:=hda 50 (by decide) (by kernel_rfl)
   have f52:=hda 52 (by decide) (by kernel_rfl)
   clear hdb hda
   rw [hd,f48,f49,f50,f52] at hW1
   replace f48:=Lib.hid f48
   replace f49:=Lib.hid f49
   replace f50:=Lib.hid f50
   replace f52:=Lib.hid f52
   clear hd hW hc
   have hW2:=cl19 _ _ _ _ _ _ _ _ _ _ _ _ _ _ _ _ _ _ _ _ _ _ _ _ _ _ _ hW1
   simp only [Array.getD_eq_getD_getElem?] at e21 e23 e25
   subst hV
   refine wpOp_plain ho rfl ?_
   go_simp
   refine⟨_,rfl,?_⟩
   simpa [updB,upd,f48.out,f49.out,f50.out,f52.out] using hW2
  ·obtain⟨ps,af,rfl⟩:=core (some 29) (.call {callee:= .value (.func 87),args:=#[.tmp 28],argTypes:=#[29]}) 29 none ho (by kernel_rfl)
   have e28:Tx.getD 28 undef=sv:=hK.is 21 ho (by kernel_rfl) (by subst hV;rfl)
   have hW1:PW (dx 3) (dx 11) (dx 12) (dx 19) (dx 22) (dx 27) (dx 28) (dx 31) (dx 34) (dx 35) (dx 38) (dx 41) (dx 42) (dx 47) (dx 48) (dx 49) (dx 50) (dx 52) (yx 11) (yx 12) (yx 19) (yx 22) (yx 27) (yx 28) (yx 35) (yx 38) (yx 41) (yx 42) (yx 47) (yx 48) (yx 49) wx:=hW
   have f3:=hdb 3 (by decide) (by kernel_rfl)
   have f11:=hdb 11 (by decide) (by kernel_rfl)
   have f12:=hdb 12 (by decide) (by kernel_rfl)
   have f28:=hda 28 (by decide) (by kernel_rfl)
   have f31:=hda 31 (by decide) (by kernel_rfl)
   have f34:=hda 34 (by decide) (by kernel_rfl)
   have f35:=hda 35 (by decide) (by kernel_rfl)
   have f38:=hda 38 (by decide) (by kernel_rfl)
   have f42:=hda 42 (by decide) (by kernel_rfl)
   have f48:=hda 48 (by decide) (by kernel_rfl)
   have f49:=hda 49 (by decide) (by kernel_rfl)
   have f50:=hda 50 (by decide) (by kernel_rfl)
   have f52:=hda 52 (by decide) (by kernel_rfl)
   clear hdb hda
   rw [hd,f3,f11,f12,f28,f31,f34,f35,f38,f42,f48,f49,f50,f52] at hW1
   replace f3:=Lib.hid f3
   replace f11:=Lib.hid f11
   replace f12:=Lib.hid f12
   replace f28:=Lib.hid f28
   replace f31:=Lib.hid f31
   replace f34:=Lib.hid f34
   replace f35:=Lib.hid f35
   replace f38:=Lib.hid f38
   replace f42:=Lib.hid f42
   replace f48:=Lib.hid f48
   replace f49:=Lib.hid f49
   replace f50:=Lib.hid f50
   replace f52:=Lib.hid f52
   clear hd hW hc
   refine wpOp_plain ho rfl ?_
   go_simp
   go_at_call 87
   refine(cl22 _ _ _ _ _ _ _ _ _ _ _ _ _ _ _ _ _ _ hW1).mono ?_
   rintro ex w2 ⟨vx,rfl,hW2⟩
   subst hV
   refine⟨vx,rfl,?_⟩
   simpa [updB,upd,f3.out,f11.out,f12.out,f28.out,f31.out,f34.out,f35.out,f38.out,f42.out,f48.out,f49.out,f50.out,f52.out] using hW2
  ·obtain⟨ps,af,rfl⟩:=core (some 34) (.buildSlice 55 2 #[(0,.tmp 31),(1,.tmp 33)]) 55 none ho (by kernel_rfl)
   have e31:Tx.getD 31 undef = .int .i64 born:=hK.is 24 ho (by kernel_rfl) (by subst hV;rfl)
   have e33:Tx.getD 33 undef = .int .i64 exp:=hK.is 26 ho (by kernel_rfl) (by subst hV;rfl)
   have hW1:PW (dx 3) (dx 11) (dx 12) (dx 19) (dx 22) (dx 27) (dx 28) (dx 31) (dx 34) (dx 35) (dx 38) (dx 41) (dx 42) (dx 47) (dx 48) (dx 49) (dx 50) (dx 52) (yx 11) (yx 12) (yx 19) (yx 22) (yx 27) (yx 28) (yx 35) (yx 38) (yx 41) (yx 42) (yx 47) (yx 48) (yx 49) wx:=hW
   have f28:=hda 28 (by decide) (by kernel_rfl)
   have f31:=hda 31 (by decide) (by kernel_rfl)
   have f34:=hda 34 (by decide) (by kernel_rfl)
   have f35:=hda 35 (by decide) (by kernel_rfl)
   have f38:=hda 38 (by decide) (by kernel_rfl)
   have f42:=hda 42 (by decide) (by kernel_rfl)
   have f48:=hda 48 (by decide) (by kernel_rfl)
   have f49:=hda 49 (by decide) (by kernel_rfl)
   have f50:=hda 50 (by decide) (by kernel_rfl)
   have f52:=hda 52 (by decide) (by kernel_rfl)
   clear hdb hda
   rw [hd,f28,f31,f34,f35,f38,f42,f48,f49,f50,f52] at hW1
   replace f28:=Lib.hid f28
   replace f31:=Lib.hid f31
   replace f34:=Lib.hid f34
   replace f35:=Lib.hid f35
   replace f38:=Lib.hid f38
   replace f42:=Lib.hid f42
   replace f48:=Lib.hid f48
   replace f49:=Lib.hid f49
   replace f50:=Lib.hid f50
   replace f52:=Lib.hid f52
   clear hd hW hc
   have hW2:=cl27 _ _ _ _ _ _ _ _ _ _ _ _ _ _ _ _ _ _ _ _ _ hW1
   simp only [Array.getD_eq_getD_getElem?] at e31 e33
   subst hV
   refine wpOp_plain ho rfl ?_
   go_simp
   refine⟨_,rfl,?_⟩
   simpa [updB,upd,f28.out,f31.out,f34.out,f35.out,f38.out,f42.out,f48.out,f49.out,f50.out,f52.out] using hW2
  ·obtain⟨ps,af,rfl⟩:=core (some 35) (.call {callee:= .value (.func 83),args:=#[.tmp 34],argTypes:=#[55]}) 29 none ho (by kernel_rfl)
   have e34:Tx.getD 34 undef=yx 27:=hK.is 27 ho (by kernel_rfl) (by subst hV;rfl)
   have hW1:PW (dx 3) (dx 11) (dx 12) (dx 19) (dx 22) (dx 27) (dx 28) (dx 31) (dx 34) (dx 35) (dx 38) (dx 41) (dx 42) (dx 47) (dx 48) (dx 49) (dx 50) (dx 52) (yx 11) (yx 12) (yx 19) (yx 22) (yx 27) (yx 28) (yx 35) (yx 38) (yx 41) (yx 42) (yx 47) (yx 48) (yx 49) wx:=hW
   have f3:=hdb 3 (by decide) (by kernel_rfl)
   have f11:=hdb 11 (by decide) (by kernel_rfl)
   have f12:=hdb 12 (by decide) (by kernel_rfl)
   have f22:=hdb 22 (by decide) (by kernel_rfl)
   have f27:=hdb 27 (by decide) (by kernel_rfl)
   have f31:=hda 31 (by decide) (by kernel_rfl)
   have f34:=hda 34 (by decide) (by kernel_rfl)
   have f35:=hda 35 (by decide) (by kernel_rfl)
   have f38:=hda 38 (by decide) (by kernel_rfl)
   have f42:=hda 42 (by decide) (by kernel_rfl)
   have f48:=hda 48 (by decide) (by kernel_rfl)
   have f49:=hda 49 (by decide) (by kernel_rfl)
   have f50:=hda 50 (by decide) (by kernel_rfl)
   have f52:=hda 52 (by decide) (by kernel_rfl)
   clear hdb hda
   rw [hd,f3,f11,f12,f22,f27,f31,f34,f35,f38,f42,f48,f49,f50,f52] at hW1
   replace f3:=Lib.hid f3
   replace f11:=Lib.hid f11
   replace f12:=Lib.hid f12
   replace f22:=Lib.hid f22
   replace f27:=Lib.hid f27
   replace f31:=Lib.hid f31
   replace f34:=Lib.hid f34
   replace f35:=Lib.hid f35
   replace f38:=Lib.hid f38
   replace f42:=Lib.hid f42
   replace f48:=Lib.hid f48
   replace f49:=Lib.hid f49
   replace f50:=Lib.hid f50
   replace f52:=Lib.hid f52
   clear hd hW hc
   refine wpOp_plain ho rfl ?_
   go_simp
   go_at_call 83
   refine(cl28 _ _ _ _ _ _ _ _ _ _ _ _ _ _ _ _ _ hW1).mono ?_
   rintro ex w2 ⟨vx,rfl,hW2⟩
   subst hV
   refine⟨vx,rfl,?_⟩
   simpa [updB,upd,f3.out,f11.out,f12.out,f22.out,f27.out,f31.out,f34.out,f35.out,f38.out,f42.out,f48.out,f49.out,f50.out,f52.out] using hW2
  ·obtain⟨ps,af,rfl⟩:=core (some 38) (.call {callee:= .value (.func 88),args:=#[.tmp 37],argTypes:=#[4]}) 9 none ho (by kernel_rfl)
   have e37:Tx.getD 37 undef = .bool dead:=hK.is 30 ho (by kernel_rfl) (by subst hV;rfl)
   have hW1:PW (dx 3) (dx 11) (dx 12) (dx 19) (dx 22) (dx 27) (dx 28) (dx 31) (dx 34) (dx 35) (dx 38) (dx 41) (dx 42) (dx 47) (dx 48) (dx 49) (dx 50) (dx 52) (yx 11) (yx 12) (yx 19) (yx 22) (yx 27) (yx 28) (yx 35) (yx 38) (yx 41) (yx 42) (yx 47) (yx 48) (yx 49) wx:=hW
   have f3:=hdb 3 (by decide) (by kernel_rfl)
   have f11:=hdb 11 (by decide) (by kernel_rfl)
   have f12:=hdb 12 (by decide) (by kernel_rfl)
   have f22:=hdb 22 (by decide) (by kernel_rfl)
   have f27:=hdb 27 (by decide) (by kernel_rfl)
   have f28:=hdb 28 (by decide) (by kernel_rfl)
   have f34:=hda 34 (by decide) (by kernel_rfl)
   have f35:=hda 35 (by decide) (by kernel_rfl)
   have f38:=hda 38 (by decide) (by kernel_rfl)
   have f42:=hda 42 (by decide) (by kernel_rfl)
   have f48:=hda 48 (by decide) (by kernel_rfl)
   have f49:=hda 49 (by decide) (by kernel_rfl)
   have f50:=hda 50 (by decide) (by kernel_rfl)
   have f52:=hda 52 (by decide) (by kernel_rfl)
   clear hdb hda
   rw [hd,f3,f11,f12,f22,f27,f28,f34,f35,f38,f42,f48,f49,f50,f52] at hW1
   replace f3:=Lib.hid f3
   replace f11:=Lib.hid f11
   replace f12:=Lib.hid f12
   replace f22:=Lib.hid f22
   replace f27:=Lib.hid f27
   replace f28:=Lib.hid f28
   replace f34:=Lib.hid f34
   replace f35:=Lib.hid f35
   replace f38:=Lib.hid f38
   replace f42:=Lib.hid f42
   replace f48:=Lib.hid f48
   replace f49:=Lib.hid f49
   replace f50:=Lib.hid f50
   replace f52:=Lib.hid f52
   clear hd hW hc
   refine wpOp_plain ho rfl ?_
   go_simp
   go_at_call 88
   refine(cl31 _ _ _ _ _ _ _ _ _ _ _ _ _ _ _ _ _ hW1).mono ?_
   rintro ex w2 ⟨rfl,hW2⟩
   subst hV
   first | refine⟨undef,rfl,?_⟩ | refine⟨⟨undef,rfl⟩,?_⟩
   simpa [updB,upd,f3.out,f11.out,f12.out,f22.out,f27.out,f28.out,f34.out,f35.out,f38.out,f42.out,f48.out,f49.out,f50.out,f52.out] using hW2
  ·obtain⟨ps,af,rfl⟩:=core (some 41) (.call {callee:= .value (.func 88),args:=#[.tmp 40],argTypes:=#[4]}) 9 none ho (by kernel_rfl)
   have e40:Tx.getD 40 undef = .bool spent:=hK.is 33 ho (by kernel_rfl) (by subst hV;rfl)
   have hW1:PW (dx 3) (dx 11) (dx 12) (dx 19) (dx 22) (dx 27) (dx 28) (dx 31) (dx 34) (dx 35) (dx 38) (dx 41) (dx 42) (dx 47) (dx 48) (dx 49) (dx 50) (dx 52) (yx 11) (yx 12) (yx 19) (yx 22) (yx 27) (yx 28) (yx 35) (yx 38) (yx 41) (yx 42) (yx 47) (yx 48) (yx 49) wx:=hW
   have f3:=hdb 3 (by decide) (by kernel_rfl)
   have f11:=hdb 11 (by decide) (by kernel_rfl)
   have f12:=hdb 12 (by decide) (by kernel_rfl)
   have f22:=hdb 22 (by decide) (by kernel_rfl)
   have f27:=hdb 27 (by decide) (by kernel_rfl)
   have f28:=hdb 28 (by decide) (by kernel_rfl)
   have f31:=hdb 31 (by decide) (by kernel_rfl)
   have f35:=hda 35 (by decide) (by kernel_rfl)
   have f38:=hda 38 (by decide) (by kernel_rfl)
   have f42:=hda 42 (by decide) (by kernel_rfl)
   have f48:=hda 48 (by decide) (by kernel_rfl)
   have f49:=hda 49 (by decide) (by kernel_rfl)
   have f50:=hda 50 (by decide) (by kernel_rfl)
   have f52:=hda 52 (by decide) (by kernel_rfl)
   clear hdb hda
   rw [hd,f3,f11,f12,f22,f27,f28,f31,f35,f38,f42,f48,f49,f50,f52] at hW1
   replace f3:=Lib.hid f3
   replace f11:=Lib.hid f11
   replace f12:=Lib.hid f12
   replace f22:=Lib.hid f22
   replace f27:=Lib.hid f27
   replace f28:=Lib.hid f28
   replace f31:=Lib.hid f31
   replace f35:=Lib.hid f35
   replace f38:=Lib.hid f38
   replace f42:=Lib.hid f42
   replace f48:=Lib.hid f48
   replace f49:=Lib.hid f49
   replace f50:=Lib.hid f50
   replace f52:=Lib.hid f52
   clear hd hW hc
   refine wpOp_plain ho rfl ?_
   go_simp
   go_at_call 88
   refine(cl34 _ _ _ _ _ _ _ _ _ _ _ _ _ _ _ _ _ hW1).mono ?_
   rintro ex w2 ⟨rfl,hW2⟩
   subst hV
   first | refine⟨undef,rfl,?_⟩ | refine⟨⟨undef,rfl⟩,?_⟩
   simpa [updB,upd,f3.out,f11.out,f12.out,f22.out,f27.out,f28.out,f31.out,f35.out,f38.out,f42.out,f48.out,f49.out,f50.out,f52.out] using hW2
  ·obtain⟨ps,af,rfl⟩:=core (some 42) (.buildSlice 29 2 #[(0,.tmp 38),(1,.tmp 41)]) 29 none ho (by kernel_rfl)
   have e38:Tx.getD 38 undef = .string ⟨(flagT dead).toArray⟩:=hK.is 31 ho (by kernel_rfl) (by subst hV;rfl)
   have e41:Tx.getD 41 undef = .string ⟨(flagT spent).toArray⟩:=hK.is 34 ho (by kernel_rfl) (by subst hV;rfl)
   have hW1:PW (dx 3) (dx 11) (dx 12) (dx 19) (dx 22) (dx 27) (dx 28) (dx 31) (dx 34) (dx 35) (dx 38) (dx 41) (dx 42) (dx 47) (dx 48) (dx 49) (dx 50) (dx 52) (yx 11) (yx 12) (yx 19) (yx 22) (yx 27) (yx 28) (yx 35) (yx 38) (yx 41) (yx 42) (yx 47) (yx 48) (yx 49) wx:=hW
   have f3:=hdb 3 (by decide) (by kernel_rfl)
   have f11:=hdb 11 (by decide) (by kernel_rfl)
   have f12:=hdb 12 (by decide) (by kernel_rfl)
   have f22:=hdb 22 (by decide) (by kernel_rfl)
   have f27:=hdb 27 (by decide) (by kernel_rfl)
   have f28:=hdb 28 (by decide) (by kernel_rfl)
   have f31:=hdb 31 (by decide) (by kernel_rfl)
   have f34:=hdb 34 (by decide) (by kernel_rfl)
   have f48:=hda 48 (by decide) (by kernel_rfl)
   have f49:=hda 49 (by decide) (by kernel_rfl)
   have f50:=hda 50 (by decide) (by kernel_rfl)
   have f52:=hda 52 (by decide) (by kernel_rfl)
   clear hdb hda
   rw [hd,f3,f11,f12,f22,f27,f28,f31,f34,f48,f49,f50,f52] at hW1
   replace f3:=Lib.hid f3
   replace f11:=Lib.hid f11
   replace f12:=Lib.hid f12
   replace f22:=Lib.hid f22
   replace f27:=Lib.hid f27
   replace f28:=Lib.hid f28
   replace f31:=Lib.hid f31
   replace f34:=Lib.hid f34
   replace f48:=Lib.hid f48
   replace f49:=Lib.hid f49
   replace f50:=Lib.hid f50
   replace f52:=Lib.hid f52
   clear hd hW hc
   have hW2:=cl35 _ _ _ _ _ _ _ _ _ _ _ _ _ _ _ _ _ _ _ hW1
   simp only [Array.getD_eq_getD_getElem?] at e38 e41
   subst hV
   refine wpOp_plain ho rfl ?_
   go_simp
   refine⟨_,rfl,?_⟩
   simpa [updB,upd,f3.out,f11.out,f12.out,f22.out,f27.out,f28.out,f31.out,f34.out,f48.out,f49.out,f50.out,f52.out] using hW2
  ·obtain⟨ps,af,rfl⟩:=core (some 45) (.call {callee:= .value (.func 87),args:=#[.tmp 44],argTypes:=#[29]}) 29 none ho (by kernel_rfl)
   have e44:Tx.getD 44 undef=av:=hK.is 37 ho (by kernel_rfl) (by subst hV;rfl)
   have hW1:PW (dx 3) (dx 11) (dx 12) (dx 19) (dx 22) (dx 27) (dx 28) (dx 31) (dx 34) (dx 35) (dx 38) (dx 41) (dx 42) (dx 47) (dx 48) (dx 49) (dx 50) (dx 52) (yx 11) (yx 12) (yx 19) (yx 22) (yx 27) (yx 28) (yx 35) (yx 38) (yx 41) (yx 42) (yx 47) (yx 48) (yx 49) wx:=hW
   have f3:=hdb 3 (by decide) (by kernel_rfl)
   have f11:=hdb 11 (by decide) (by kernel_rfl)
   have f12:=hdb 12 (by decide) (by kernel_rfl)
   have f22:=hdb 22 (by decide) (by kernel_rfl)
   have f27:=hdb 27 (by decide) (by kernel_rfl)
   have f28:=hdb 28 (by decide) (by kernel_rfl)
   have f31:=hdb 31 (by decide) (by kernel_rfl)
   have f34:=hdb 34 (by decide) (by kernel_rfl)
   have f42:=hda 42 (by decide) (by kernel_rfl)
   have f48:=hda 48 (by decide) (by kernel_rfl)
   have f49:=hda 49 (by decide) (by kernel_rfl)
   have f50:=hda 50 (by decide) (by kernel_rfl)
   have f52:=hda 52 (by decide) (by kernel_rfl)
   clear hdb hda
   rw [hd,f3,f11,f12,f22,f27,f28,f31,f34,f42,f48,f49,f50,f52] at hW1
   replace f3:=Lib.hid f3
   replace f11:=Lib.hid f11
   replace f12:=Lib.hid f12
   replace f22:=Lib.hid f22
   replace f27:=Lib.hid f27
   replace f28:=Lib.hid f28
   replace f31:=Lib.hid f31
   replace f34:=Lib.hid f34
   replace f42:=Lib.hid f42
   replace f48:=Lib.hid f48
   replace f49:=Lib.hid f49
   replace f50:=Lib.hid f50
   replace f52:=Lib.hid f52
   clear hd hW hc
   refine wpOp_plain ho rfl ?_
   go_simp
   go_at_call 87
   refine(cl38 _ _ _ _ _ _ _ _ _ _ _ _ _ _ _ _ _ _ hW1).mono ?_
   rintro ex w2 ⟨vx,rfl,hW2⟩
   subst hV
   refine⟨vx,rfl,?_⟩
   simpa [updB,upd,f3.out,f11.out,f12.out,f22.out,f27.out,f28.out,f31.out,f34.out,f42.out,f48.out,f49.out,f50.out,f52.out] using hW2
  ·obtain⟨ps,af,rfl⟩:=core (some 48) (.buildSlice 55 1 #[(0,.tmp 47)]) 55 none ho (by kernel_rfl)
   have e47:Tx.getD 47 undef = .int .i64 level:=hK.is 40 ho (by kernel_rfl) (by subst hV;rfl)
   have hW1:PW (dx 3) (dx 11) (dx 12) (dx 19) (dx 22) (dx 27) (dx 28) (dx 31) (dx 34) (dx 35) (dx 38) (dx 41) (dx 42) (dx 47) (dx 48) (dx 49) (dx 50) (dx 52) (yx 11) (yx 12) (yx 19) (yx 22) (yx 27) (yx 28) (yx 35) (yx 38) (yx 41) (yx 42) (yx 47) (yx 48) (yx 49) wx:=hW
   have f42:=hda 42 (by decide) (by kernel_rfl)
   have f48:=hda 48 (by decide) (by kernel_rfl)
   have f49:=hda 49 (by decide) (by kernel_rfl)
   have f50:=hda 50 (by decide) (by kernel_rfl)
   have f52:=hda 52 (by decide) (by kernel_rfl)
   clear hdb hda
   rw [hd,f42,f48,f49,f50,f52] at hW1
   replace f42:=Lib.hid f42
   replace f48:=Lib.hid f48
   replace f49:=Lib.hid f49
   replace f50:=Lib.hid f50
   replace f52:=Lib.hid f52
   clear hd hW hc
   have hW2:=cl41 _ _ _ _ _ _ _ _ _ _ _ _ _ _ _ _ _ _ _ _ _ _ _ _ _ _ hW1
   simp only [Array.getD_eq_getD_getElem?] at e47
   subst hV
   refine wpOp_plain ho rfl ?_
   go_simp
   refine⟨_,rfl,?_⟩
   simpa [updB,upd,f42.out,f48.out,f49.out,f50.out,f52.out] using hW2
  ·obtain⟨ps,af,rfl⟩:=core (some 49) (.call {callee:= .value (.func 83),args:=#[.tmp 48],argTypes:=#[55]}) 29 none ho (by kernel_rfl)
   have e48:Tx.getD 48 undef=yx 41:=hK.is 41 ho (by kernel_rfl) (by subst hV;rfl)
   have hW1:PW (dx 3) (dx 11) (dx 12) (dx 19) (dx 22) (dx 27) (dx 28) (dx 31) (dx 34) (dx 35) (dx 38) (dx 41) (dx 42) (dx 47) (dx 48) (dx 49) (dx 50) (dx 52) (yx 11) (yx 12) (yx 19) (yx 22) (yx 27) (yx 28) (yx 35) (yx 38) (yx 41) (yx 42) (yx 47) (yx 48) (yx 49) wx:=hW
   have f3:=hdb 3 (by decide) (by kernel_rfl)
   have f11:=hdb 11 (by decide) (by kernel_rfl)
   have f12:=hdb 12 (by decide) (by kernel_rfl)
   have f22:=hdb 22 (by decide) (by kernel_rfl)
   have f27:=hdb 27 (by decide) (by kernel_rfl)
   have f28:=hdb 28 (by decide) (by kernel_rfl)
   have f31:=hdb 31 (by decide) (by kernel_rfl)
   have f34:=hdb 34 (by decide) (by kernel_rfl)
   have f38:=hdb 38 (by decide) (by kernel_rfl)
   have f41:=hdb 41 (by decide) (by kernel_rfl)
   have f48:=hda 48 (by decide) (by kernel_rfl)
   have f49:=hda 49 (by decide) (by kernel_rfl)
   have f50:=hda 50 (by decide) (by kernel_rfl)
   have f52:=hda 52 (by decide) (by kernel_rfl)
   clear hdb hda
   rw [hd,f3,f11,f12,f22,f27,f28,f31,f34,f38,f41,f48,f49,f50,f52] at hW1
   replace f3:=Lib.hid f3
   replace f11:=Lib.hid f11
   replace f12:=Lib.hid f12
   replace f22:=Lib.hid f22
   replace f27:=Lib.hid f27
   replace f28:=Lib.hid f28
   replace f31:=Lib.hid f31
   replace f34:=Lib.hid f34
   replace f38:=Lib.hid f38
   replace f41:=Lib.hid f41
   replace f48:=Lib.hid f48
   replace f49:=Lib.hid f49
   replace f50:=Lib.hid f50
   replace f52:=Lib.hid f52
   clear hd hW hc
   refine wpOp_plain ho rfl ?_
   go_simp
   go_at_call 83
   refine(cl42 _ _ _ _ _ _ _ _ _ _ _ _ _ _ _ _ _ hW1).mono ?_
   rintro ex w2 ⟨vx,rfl,hW2⟩
   subst hV
   refine⟨vx,rfl,?_⟩
   simpa [updB,upd,f3.out,f11.out,f12.out,f22.out,f27.out,f28.out,f31.out,f34.out,f38.out,f41.out,f48.out,f49.out,f50.out,f52.out] using hW2
  ·obtain⟨ps,af,rfl⟩:=core (some 54) (.buildSlice 29 2 #[(0,.tmp 51),(1,.tmp 53)]) 29 none ho (by kernel_rfl)
   have e51:Tx.getD 51 undef = .string ⟨sec.toArray⟩:=hK.is 44 ho (by kernel_rfl) (by subst hV;rfl)
   have e53:Tx.getD 53 undef = .string ⟨dat.toArray⟩:=hK.is 46 ho (by kernel_rfl) (by subst hV;rfl)
   have hW1:PW (dx 3) (dx 11) (dx 12) (dx 19) (dx 22) (dx 27) (dx 28) (dx 31) (dx 34) (dx 35) (dx 38) (dx 41) (dx 42) (dx 47) (dx 48) (dx 49) (dx 50) (dx 52) (yx 11) (yx 12) (yx 19) (yx 22) (yx 27) (yx 28) (yx 35) (yx 38) (yx 41) (yx 42) (yx 47) (yx 48) (yx 49) wx:=hW
   have f48:=hda 48 (by decide) (by kernel_rfl)
   have f49:=hda 49 (by decide) (by kernel_rfl)
   have f50:=hda 50 (by decide) (by kernel_rfl)
   have f52:=hda 52 (by decide) (by kernel_rfl)
   clear hdb hda
   rw [hd,f48,f49,f50,f52] at hW1
   replace f48:=Lib.hid f48
   replace f49:=Lib.hid f49
   replace f50:=Lib.hid f50
   replace f52:=Lib.hid f52
   clear hd hW hc
   have hW2:=cl47 _ _ _ _ _ _ _ _ _ _ _ _ _ _ _ _ _ _ _ _ _ _ _ _ _ _ _ hW1
   simp only [Array.getD_eq_getD_getElem?] at e51 e53
   subst hV
   refine wpOp_plain ho rfl ?_
   go_simp
   refine⟨_,rfl,?_⟩
   simpa [updB,upd,f48.out,f49.out,f50.out,f52.out] using hW2
  ·obtain⟨ps,af,rfl⟩:=core (some 55) (.buildSlice 151 8 #[(0,.tmp 19),(1,.tmp 26),(2,.tmp 29),(3,.tmp 35),(4,.tmp 42),(5,.tmp 45),(6,.tmp 49),(7,.tmp 54)]) 151 none ho (by kernel_rfl)
   have e19:Tx.getD 19 undef=yx 12:=hK.is 12 ho (by kernel_rfl) (by subst hV;rfl)
   have e26:Tx.getD 26 undef=yx 19:=hK.is 19 ho (by kernel_rfl) (by subst hV;rfl)
   have e29:Tx.getD 29 undef=yx 22:=hK.is 22 ho (by kernel_rfl) (by subst hV;rfl)
   have e35:Tx.getD 35 undef=yx 28:=hK.is 28 ho (by kernel_rfl) (by subst hV;rfl)
   have e42:Tx.getD 42 undef=yx 35:=hK.is 35 ho (by kernel_rfl) (by subst hV;rfl)
   have e45:Tx.getD 45 undef=yx 38:=hK.is 38 ho (by kernel_rfl) (by subst hV;rfl)
   have e49:Tx.getD 49 undef=yx 42:=hK.is 42 ho (by kernel_rfl) (by subst hV;rfl)
   have e54:Tx.getD 54 undef=yx 47:=hK.is 47 ho (by kernel_rfl) (by subst hV;rfl)
   have hW1:PW (dx 3) (dx 11) (dx 12) (dx 19) (dx 22) (dx 27) (dx 28) (dx 31) (dx 34) (dx 35) (dx 38) (dx 41) (dx 42) (dx 47) (dx 48) (dx 49) (dx 50) (dx 52) (yx 11) (yx 12) (yx 19) (yx 22) (yx 27) (yx 28) (yx 35) (yx 38) (yx 41) (yx 42) (yx 47) (yx 48) (yx 49) wx:=hW
   have f3:=hdb 3 (by decide) (by kernel_rfl)
   have f11:=hdb 11 (by decide) (by kernel_rfl)
   have f12:=hdb 12 (by decide) (by kernel_rfl)
   have f19:=hdb 19 (by decide) (by kernel_rfl)
   have f22:=hdb 22 (by decide) (by kernel_rfl)
   have f27:=hdb 27 (by decide) (by kernel_rfl)
   have f28:=hdb 28 (by decide) (by kernel_rfl)
   have f31:=hdb 31 (by decide) (by kernel_rfl)
   have f34:=hdb 34 (by decide) (by kernel_rfl)
   have f35:=hdb 35 (by decide) (by kernel_rfl)
   have f38:=hdb 38 (by decide) (by kernel_rfl)
   have f41:=hdb 41 (by decide) (by kernel_rfl)
   have f42:=hdb 42 (by decide) (by kernel_rfl)
   have f47:=hdb 47 (by decide) (by kernel_rfl)
   have f49:=hda 49 (by decide) (by kernel_rfl)
   have f50:=hda 50 (by decide) (by kernel_rfl)
   have f52:=hda 52 (by decide) (by kernel_rfl)
   clear hdb hda
   rw [hd,f3,f11,f12,f19,f22,f27,f28,f31,f34,f35,f38,f41,f42,f47,f49,f50,f52] at hW1
   replace f3:=Lib.hid f3
   replace f11:=Lib.hid f11
   replace f12:=Lib.hid f12
   replace f19:=Lib.hid f19
   replace f22:=Lib.hid f22
   replace f27:=Lib.hid f27
   replace f28:=Lib.hid f28
   replace f31:=Lib.hid f31
   replace f34:=Lib.hid f34
   replace f35:=Lib.hid f35
   replace f38:=Lib.hid f38
   replace f41:=Lib.hid f41
   replace f42:=Lib.hid f42
   replace f47:=Lib.hid f47
   replace f49:=Lib.hid f49
   replace f50:=Lib.hid f50
   replace f52:=Lib.hid f52
   clear hd hW hc
   obtain⟨⟨a12,n12,c12,i12⟩,⟨a19,n19,c19,i19⟩,⟨a22,n22,c22,i22⟩,⟨a28,n28,c28,i28⟩,⟨a35,n35,c35,i35⟩,⟨a38,n38,c38,i38⟩,⟨a42,n42,c42,i42⟩,⟨a47,n47,c47,i47⟩,hW2⟩:=cl48 _ _ _ _ _ _ _ _ _ _ _ _ _ _ hW1
   rw [i12] at e19
   rw [i19] at e26
   rw [i22] at e29
   rw [i28] at e35
   rw [i35] at e42
   rw [i38] at e45
   rw [i42] at e49
   rw [i47] at e54
   simp only [Array.getD_eq_getD_getElem?] at e19 e26 e29 e35 e42 e45 e49 e54
   subst hV
   refine wpOp_plain ho rfl ?_
   go_simp
   rw [← i12,← i19,← i22,← i28,← i35,← i38,← i42,← i47]
   refine⟨_,rfl,?_⟩
   simpa [updB,upd,f3.out,f11.out,f12.out,f19.out,f22.out,f27.out,f28.out,f31.out,f34.out,f35.out,f38.out,f41.out,f42.out,f47.out,f49.out,f50.out,f52.out] using hW2
  ·obtain⟨ps,af,rfl⟩:=core (some 56) (.call {callee:= .value (.func 86),args:=#[.tmp 55],argTypes:=#[151]}) 29 none ho (by kernel_rfl)
   have e55:Tx.getD 55 undef=yx 48:=hK.is 48 ho (by kernel_rfl) (by subst hV;rfl)
   have hW1:PW (dx 3) (dx 11) (dx 12) (dx 19) (dx 22) (dx 27) (dx 28) (dx 31) (dx 34) (dx 35) (dx 38) (dx 41) (dx 42) (dx 47) (dx 48) (dx 49) (dx 50) (dx 52) (yx 11) (yx 12) (yx 19) (yx 22) (yx 27) (yx 28) (yx 35) (yx 38) (yx 41) (yx 42) (yx 47) (yx 48) (yx 49) wx:=hW
   have f3:=hdb 3 (by decide) (by kernel_rfl)
   have f11:=hdb 11 (by decide) (by kernel_rfl)
   have f12:=hdb 12 (by decide) (by kernel_rfl)
   have f19:=hdb 19 (by decide) (by kernel_rfl)
   have f22:=hdb 22 (by decide) (by kernel_rfl)
   have f27:=hdb 27 (by decide) (by kernel_rfl)
   have f28:=hdb 28 (by decide) (by kernel_rfl)
   have f31:=hdb 31 (by decide) (by kernel_rfl)
   have f34:=hdb 34 (by decide) (by kernel_rfl)
   have f35:=hdb 35 (by decide) (by kernel_rfl)
   have f38:=hdb 38 (by decide) (by kernel_rfl)
   have f41:=hdb 41 (by decide) (by kernel_rfl)
   have f42:=hdb 42 (by decide) (by kernel_rfl)
   have f47:=hdb 47 (by decide) (by kernel_rfl)
   have f48:=hdb 48 (by decide) (by kernel_rfl)
   have f50:=hda 50 (by decide) (by kernel_rfl)
   have f52:=hda 52 (by decide) (by kernel_rfl)
   clear hdb hda
   rw [hd,f3,f11,f12,f19,f22,f27,f28,f31,f34,f35,f38,f41,f42,f47,f48,f50,f52] at hW1
   replace f3:=Lib.hid f3
   replace f11:=Lib.hid f11
   replace f12:=Lib.hid f12
   replace f19:=Lib.hid f19
   replace f22:=Lib.hid f22
   replace f27:=Lib.hid f27
   replace f28:=Lib.hid f28
   replace f31:=Lib.hid f31
   replace f34:=Lib.hid f34
   replace f35:=Lib.hid f35
   replace f38:=Lib.hid f38
   replace f41:=Lib.hid f41
   replace f42:=Lib.hid f42
   replace f47:=Lib.hid f47
   replace f48:=Lib.hid f48
   replace f50:=Lib.hid f50
   replace f52:=Lib.hid f52
   clear hd hW hc
   refine wpOp_plain ho rfl ?_
   go_simp
   go_at_call 86
   refine(cl49 _ _ _ _ _ _ _ _ _ _ _ _ _ _ hW1).mono ?_
   rintro ex w2 ⟨vx,rfl,hW2⟩
   subst hV
   refine⟨vx,rfl,?_⟩
   simpa [updB,upd,f3.out,f11.out,f12.out,f19.out,f22.out,f27.out,f28.out,f31.out,f34.out,f35.out,f38.out,f41.out,f42.out,f47.out,f48.out,f50.out,f52.out] using hW2
  ·obtain⟨ps,af,rfl⟩:=core (some 57) (.call {callee:= .value (.func 82),args:=#[.tmp 56],argTypes:=#[29]}) 9 none ho (by kernel_rfl)
   have e56:Tx.getD 56 undef=yx 49:=hK.is 49 ho (by kernel_rfl) (by subst hV;rfl)
   have hW1:PW (dx 3) (dx 11) (dx 12) (dx 19) (dx 22) (dx 27) (dx 28) (dx 31) (dx 34) (dx 35) (dx 38) (dx 41) (dx 42) (dx 47) (dx 48) (dx 49) (dx 50) (dx 52) (yx 11) (yx 12) (yx 19) (yx 22) (yx 27) (yx 28) (yx 35) (yx 38) (yx 41) (yx 42) (yx 47) (yx 48) (yx 49) wx:=hW
   have f3:=hdb 3 (by decide) (by kernel_rfl)
   have f11:=hdb 11 (by decide) (by kernel_rfl)
   have f12:=hdb 12 (by decide) (by kernel_rfl)
   have f19:=hdb 19 (by decide) (by kernel_rfl)
   have f22:=hdb 22 (by decide) (by kernel_rfl)
   have f27:=hdb 27 (by decide) (by kernel_rfl)
   have f28:=hdb 28 (by decide) (by kernel_rfl)
   have f31:=hdb 31 (by decide) (by kernel_rfl)
   have f34:=hdb 34 (by decide) (by kernel_rfl)
   have f35:=hdb 35 (by decide) (by kernel_rfl)
   have f38:=hdb 38 (by decide) (by kernel_rfl)
   have f41:=hdb 41 (by decide) (by kernel_rfl)
   have f42:=hdb 42 (by decide) (by kernel_rfl)
   have f47:=hdb 47 (by decide) (by kernel_rfl)
   have f48:=hdb 48 (by decide) (by kernel_rfl)
   have f49:=hdb 49 (by decide) (by kernel_rfl)
   have f52:=hda 52 (by decide) (by kernel_rfl)
   clear hdb hda
   rw [hd,f3,f11,f12,f19,f22,f27,f28,f31,f34,f35,f38,f41,f42,f47,f48,f49,f52] at hW1
   replace f3:=Lib.hid f3
   replace f11:=Lib.hid f11
   replace f12:=Lib.hid f12
   replace f19:=Lib.hid f19
   replace f22:=Lib.hid f22
   replace f27:=Lib.hid f27
   replace f28:=Lib.hid f28
   replace f31:=Lib.hid f31
   replace f34:=Lib.hid f34
   replace f35:=Lib.hid f35
   replace f38:=Lib.hid f38
   replace f41:=Lib.hid f41
   replace f42:=Lib.hid f42
   replace f47:=Lib.hid f47
   replace f48:=Lib.hid f48
   replace f49:=Lib.hid f49
   replace f52:=Lib.hid f52
   clear hd hW hc
   refine wpOp_plain ho rfl ?_
   go_simp
   go_at_call 82
   refine(cl50 _ _ _ _ _ _ _ _ _ _ _ _ _ _ hW1).mono ?_
   rintro ex w2 ⟨rfl,hW2⟩
   subst hV
   first | refine⟨undef,rfl,?_⟩ | refine⟨⟨undef,rfl⟩,?_⟩
   simpa [updB,upd,f3.out,f11.out,f12.out,f19.out,f22.out,f27.out,f28.out,f31.out,f34.out,f35.out,f38.out,f41.out,f42.out,f47.out,f48.out,f49.out,f52.out] using hW2
  ·obtain⟨ps,af,rfl⟩:=core none (.store 47 (.tmp 2) (.tmp 58)) 0 none ho (by kernel_rfl)
   have e2:Tx.getD 2 undef = .pointer (some ⟨pb,0,none⟩):=hK.of (by kernel_rfl) g2
   have e58:Tx.getD 58 undef = .agg #[.string ⟨(([110,111,100,101,47]++zs)++idt).toArray⟩,.string ⟨fv.toArray⟩]:=hK.is 51 ho (by kernel_rfl) (by subst hV;rfl)
   have hW1:PW (dx 3) (dx 11) (dx 12) (dx 19) (dx 22) (dx 27) (dx 28) (dx 31) (dx 34) (dx 35) (dx 38) (dx 41) (dx 42) (dx 47) (dx 48) (dx 49) (dx 50) (dx 52) (yx 11) (yx 12) (yx 19) (yx 22) (yx 27) (yx 28) (yx 35) (yx 38) (yx 41) (yx 42) (yx 47) (yx 48) (yx 49) wx:=hW
   have f3:=hdb 3 (by decide) (by kernel_rfl)
   have f11:=hdb 11 (by decide) (by kernel_rfl)
   have f12:=hdb 12 (by decide) (by kernel_rfl)
   have f19:=hdb 19 (by decide) (by kernel_rfl)
   have f22:=hdb 22 (by decide) (by kernel_rfl)
   have f27:=hdb 27 (by decide) (by kernel_rfl)
   have f28:=hdb 28 (by decide) (by kernel_rfl)
   have f31:=hdb 31 (by decide) (by kernel_rfl)
   have f34:=hdb 34 (by decide) (by kernel_rfl)
   have f35:=hdb 35 (by decide) (by kernel_rfl)
   have f38:=hdb 38 (by decide) (by kernel_rfl)
   have f41:=hdb 41 (by decide) (by kernel_rfl)
   have f42:=hdb 42 (by decide) (by kernel_rfl)
   have f47:=hdb 47 (by decide) (by kernel_rfl)
   have f48:=hdb 48 (by decide) (by kernel_rfl)
   have f49:=hdb 49 (by decide) (by kernel_rfl)
   have f50:=hdb 50 (by decide) (by kernel_rfl)
   clear hdb hda
   rw [hd,f3,f11,f12,f19,f22,f27,f28,f31,f34,f35,f38,f41,f42,f47,f48,f49,f50] at hW1
   replace f3:=Lib.hid f3
   replace f11:=Lib.hid f11
   replace f12:=Lib.hid f12
   replace f19:=Lib.hid f19
   replace f22:=Lib.hid f22
   replace f27:=Lib.hid f27
   replace f28:=Lib.hid f28
   replace f31:=Lib.hid f31
   replace f34:=Lib.hid f34
   replace f35:=Lib.hid f35
   replace f38:=Lib.hid f38
   replace f41:=Lib.hid f41
   replace f42:=Lib.hid f42
   replace f47:=Lib.hid f47
   replace f48:=Lib.hid f48
   replace f49:=Lib.hid f49
   replace f50:=Lib.hid f50
   clear hd hW hc
   obtain⟨⟨cv,hcv⟩,⟨cv1,hcv1⟩,hfz,hfz1,hW2⟩:=cl52 _ _ _ _ _ _ _ _ _ _ _ _ _ _ hW1
   subst hV
   refine wpOp_plain ho rfl ?_
   go_simp
   first | refine⟨undef,rfl,?_⟩ | skip
   simpa [updB,upd,f3.out,f11.out,f12.out,f19.out,f22.out,f27.out,f28.out,f31.out,f34.out,f35.out,f38.out,f41.out,f42.out,f47.out,f48.out,f49.out,f50.out] using hW2
 ·have hW1:PW (dx 3) (dx 11) (dx 12) (dx 19) (dx 22) (dx 27) (dx 28) (dx 31) (dx 34) (dx 35) (dx 38) (dx 41) (dx 42) (dx 47) (dx 48) (dx 49) (dx 50) (dx 52) (yx 11) (yx 12) (yx 19) (yx 22) (yx 27) (yx 28) (yx 35) (yx 38) (yx 41) (yx 42) (yx 47) (yx 48) (yx 49) wx:=hW
  rw [hd 3 (by decide),hd 11 (by decide),hd 12 (by decide),hd 19 (by decide),hd 22 (by decide),hd 27 (by decide),hd 28 (by decide),hd 31 (by decide),hd 34 (by decide),hd 35 (by decide),hd 38 (by decide),hd 41 (by decide),hd 42 (by decide),hd 47 (by decide),hd 48 (by decide),hd 49 (by decide),hd 50 (by decide),hd 52 (by decide)] at hW1
  have hQ:=h _ _ _ _ _ _ _ _ _ _ _ _ _ _ hW1
  rw [hsz]
  subst hV hT
  refine cast (congrArg (fun Tx=>Q .normal ⟨Tx,ds⟩ wx) ?_) hQ
  kernel_rfl
end Go.Proofs.YthogppennalobaaGreatDoor.Pl
