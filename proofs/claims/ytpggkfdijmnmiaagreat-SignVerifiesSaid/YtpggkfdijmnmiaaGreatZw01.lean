/- What a strings.Builder holds behind WriteByte. Condition: at -/
import Derived.Shelf.Strings.Builder1
import Derived.Shelf.Strings.Builder2
import Derived.Shelf.Small.Bits
import Derived.Shelf.Strings.BuilderF
import Derived.Shelf.Strings.BuilderK
import Derived.Shelf.Strings.Builder2Cap
import Derived.Shelf.Strconv.Itoa0
import Derived.Shelf.LaysM
import Derived.Shelf.Strconv.Clone
import Derived.Shelf.Strings.Prefix
import Derived.Shelf.Bits.Mul64
import Derived.Shelf.Strings.Repeat
import Derived.Shelf.Strings.BuilderCap
import Derived.Test.YtpggkfdijmnmiaaGreatProg
import Derived.Test.YtpggkfdijmnmiaaGreatRows
import Derived.Lib.Hide
import Derived.WalkKit
import Derived.WalkSpells
import Derived.WalkLawsBesides
import Derived.BigCall
import Derived.Outline
import Derived.Lib.OthersKept
import Derived.Laws.BitsAllLaws
import Derived.Lib.QuietBelow
import Derived.Lib.Walk
import Derived.Laws.Shifts
import Derived.Lib.ConvBytes
import Derived.Lib.BufferRead
import Derived.Laws.IdiomStrings
import Derived.Laws.Tables
import Derived.Laws.Rows
import Derived.BigQuiet
import Derived.Laws.CopyOwn
import Derived.Deep.RegionLaw
import Derived.StillTailTactics
import Derived.Laws.MakeOwn
import Derived.StillTail
set_option linter.unusedVariables false
set_option linter.unusedSimpArgs false
set_option maxRecDepth 100000
namespace Go.Proofs.YtpggkfdijmnmiaaGreat
end Go.Proofs.YtpggkfdijmnmiaaGreat
namespace Go.Proofs
open Go.Shelf
def Tryz.lays169_ren:Go.Shelf.Ren:=⟨fun | 169=>165 | n=>n,fun | 70=>186 | 9=>9 | 0=>0 | 72=>188 | 37=>101 | 127=>192 | 3=>3 | 5=>5 | n=>n,fun | n=>n⟩
theorem Tryz.lays169:Go.Proofs.Lays.n169 Tryz.prog Tryz.lays169_ren:={
 mixed:=by kernel_rfl
 f169:=Tryz.func165.trans (congrArg some (by kernel_rfl))
 t0:=Tryz.underlying0
 a0:=Tryz.isAgg0
 z0:=Tryz.sizeOf0
 v0:=Tryz.zeroValue0
 t3:=Tryz.underlying3
 a3:=Tryz.isAgg3
 z3:=Tryz.sizeOf3
 v3:=Tryz.zeroValue3
 t9:=Tryz.underlying9
 a9:=Tryz.isAgg9
 z9:=Tryz.sizeOf9
 v9:=Tryz.zeroValue9
 t37:=Tryz.underlying101
 a37:=Tryz.isAgg101
 z37:=Tryz.sizeOf101
 v37:=Tryz.zeroValue101
 t70:=Tryz.underlying186
 a70:=Tryz.isAgg186
 z70:=Tryz.sizeOf186
 v70:=Tryz.zeroValue186
 t72:=Tryz.underlying188
 a72:=Tryz.isAgg188
 z72:=Tryz.sizeOf188
 v72:=Tryz.zeroValue188
 t127:=Tryz.underlying192
 a127:=Tryz.isAgg192
 z127:=Tryz.sizeOf192
 v127:=Tryz.zeroValue192}
theorem Tryz.Builder_Extra_169:Builder.Extra Tryz.prog Tryz.lays169_ren:={
 sizeBuilder:=by kernel_rfl
 liesBuilder:=by kernel_rfl
 t5:=Tryz.underlying5
 a5:=Tryz.isAgg5
 z5:=Tryz.sizeOf5
 v5:=Tryz.zeroValue5
 infoByte:=by kernel_rfl
 cellsByte:=by kernel_rfl
 sizeByte:=by kernel_rfl
 neB5:=by decide}
open Go.RowKit in
theorem Tryz.Builder_String_any_k (B b:Nat)(l:List UInt8)(w:World)(h:Lib.IsBuilderF 188 5 B b (Lib.byteCells l) w)(hBw:B≤w.heap.size):
  Calls Tryz.prog 165 #[.pointer (some ⟨b,0,none⟩)] w fun e w'=>e = .returned (.string ⟨l.toArray⟩)∧(Lib.IsBuilderF 188 5 B b (Lib.byteCells l) w'∧Below B w w'∧Lib.OthersKept 5 (some b) w w'):=Any.Builder_String_any_k Tryz.lays169 Tryz.Builder_Extra_169 B b l w h hBw
def Tryz.laysM316_ren:Go.Shelf.Ren:=⟨fun | 316=>136 | n=>n,fun | 9=>9 | 3=>3 | 4=>4 | 37=>101 | 0=>0 | 127=>192 | 5=>5 | n=>n,fun | n=>n⟩
theorem Tryz.laysM316:Go.Proofs.LaysM.n316 Tryz.prog Tryz.laysM316_ren:={
 mixed:=by kernel_rfl
 f316:=Tryz.func136.trans (congrArg some (by kernel_rfl))
 t0:=Tryz.underlying0
 a0:=Tryz.isAgg0
 z0:=Tryz.sizeOf0
 v0:=Tryz.zeroValue0
 t3:=Tryz.underlying3
 a3:=Tryz.isAgg3
 z3:=Tryz.sizeOf3
 v3:=Tryz.zeroValue3
 t4:=Tryz.underlying4
 a4:=Tryz.isAgg4
 z4:=Tryz.sizeOf4
 v4:=Tryz.zeroValue4
 t9:=Tryz.underlying9
 a9:=Tryz.isAgg9
 z9:=Tryz.sizeOf9
 v9:=Tryz.zeroValue9
 t37:=Tryz.underlying101
 a37:=Tryz.isAgg101
 z37:=Tryz.sizeOf101
 v37:=Tryz.zeroValue101
 t127:=Tryz.underlying192
 a127:=Tryz.isAgg192
 z127:=Tryz.sizeOf192
 v127:=Tryz.zeroValue192
 t5:=Tryz.underlying5
 a5:=Tryz.isAgg5
 z5:=Tryz.sizeOf5
 v5:=Tryz.zeroValue5
 i0:=by kernel_rfl
 i3:=by kernel_rfl
 i4:=by kernel_rfl
 i5:=by kernel_rfl
 i9:=by kernel_rfl
 i37:=by kernel_rfl
 i127:=by kernel_rfl}
open Go.RowKit in
theorem Tryz.stringslite_Clone (s:ByteArray)(w:World)(hlim:s.size≤281474976710656):
  Calls Tryz.prog 136 #[.string s] w fun e w'=>e = .returned (.string s)∧Below w.heap.size w w':=Any.stringslite_Clone Tryz.laysM316 s w hlim
def Tryz.lays264_ren:Go.Shelf.Ren:=⟨fun | 264=>186 | n=>n,fun | 53=>22 | 46=>154 | n=>n,fun | n=>n⟩
theorem Tryz.lays264:Go.Proofs.Lays.n264 Tryz.prog Tryz.lays264_ren:={
 mixed:=by kernel_rfl
 f264:=Tryz.func186.trans (congrArg some (by kernel_rfl))
 t46:=Tryz.underlying154
 a46:=Tryz.isAgg154
 z46:=Tryz.sizeOf154
 v46:=Tryz.zeroValue154
 t53:=Tryz.underlying22
 a53:=Tryz.isAgg22
 z53:=Tryz.sizeOf22
 v53:=Tryz.zeroValue22}
open Go.RowKit Go.Lib in
theorem Tryz.bits_Mul64 (x y:Nat)(hx:x<18446744073709551616)(hy:y<18446744073709551616)(w:World):
  Calls Tryz.prog 186 #[.int .u64 x,.int .u64 y] w fun e w'=>e = .returned (.tuple #[.int .u64 ((x*y / 18446744073709551616:Nat):Int),.int .u64 ((x*y % 18446744073709551616:Nat):Int)])∧w'=w:=Any.bits_Mul64 Tryz.lays264 x y hx hy w
def Tryz.lays105_ren:Go.Shelf.Ren:=⟨fun | 105=>150 | 212=>174 | 99=>175 | 165=>176 | 166=>173 | 170=>177 | 169=>165 | 263=>196 | 264=>186 | 206=>197 | 240=>187 | 241=>198 | 276=>200 | 277=>206 | n=>n,fun | 9=>9 | 3=>3 | 4=>4 | 20=>20 | 0=>0 | 46=>154 | 109=>200 | 5=>5 | 72=>188 | 76=>198 | 51=>111 | 146=>222 | 53=>22 | 148=>183 | 70=>186 | 37=>101 | 75=>190 | 127=>192 | 164=>225 | 80=>124 | n=>n,fun | n=>n⟩
theorem Tryz.lays105:Go.Proofs.Lays.n105 Tryz.prog Tryz.lays105_ren:={
 mixed:=by kernel_rfl
 f99:=Tryz.func175.trans (congrArg some (by kernel_rfl))
 f105:=Tryz.func150.trans (congrArg some (by kernel_rfl))
 f165:=Tryz.func176.trans (congrArg some (by kernel_rfl))
 f166:=Tryz.func173.trans (congrArg some (by kernel_rfl))
 f169:=Tryz.func165.trans (congrArg some (by kernel_rfl))
 f170:=Tryz.func177.trans (congrArg some (by kernel_rfl))
 f206:=Tryz.func197.trans (congrArg some (by kernel_rfl))
 f212:=Tryz.func174.trans (congrArg some (by kernel_rfl))
 f240:=Tryz.func187.trans (congrArg some (by kernel_rfl))
 f241:=Tryz.func198.trans (congrArg some (by kernel_rfl))
 f263:=Tryz.func196.trans (congrArg some (by kernel_rfl))
 f264:=Tryz.func186.trans (congrArg some (by kernel_rfl))
 f276:=Tryz.func200.trans (congrArg some (by kernel_rfl))
 f277:=Tryz.func206.trans (congrArg some (by kernel_rfl))
 t0:=Tryz.underlying0
 a0:=Tryz.isAgg0
 z0:=Tryz.sizeOf0
 v0:=Tryz.zeroValue0
 t3:=Tryz.underlying3
 a3:=Tryz.isAgg3
 z3:=Tryz.sizeOf3
 v3:=Tryz.zeroValue3
 t4:=Tryz.underlying4
 a4:=Tryz.isAgg4
 z4:=Tryz.sizeOf4
 v4:=Tryz.zeroValue4
 t5:=Tryz.underlying5
 a5:=Tryz.isAgg5
 z5:=Tryz.sizeOf5
 v5:=Tryz.zeroValue5
 t9:=Tryz.underlying9
 a9:=Tryz.isAgg9
 z9:=Tryz.sizeOf9
 v9:=Tryz.zeroValue9
 t20:=Tryz.underlying20
 a20:=Tryz.isAgg20
 z20:=Tryz.sizeOf20
 v20:=Tryz.zeroValue20
 t37:=Tryz.underlying101
 a37:=Tryz.isAgg101
 z37:=Tryz.sizeOf101
 v37:=Tryz.zeroValue101
 t46:=Tryz.underlying154
 a46:=Tryz.isAgg154
 z46:=Tryz.sizeOf154
 v46:=Tryz.zeroValue154
 t51:=Tryz.underlying111
 a51:=Tryz.isAgg111
 z51:=Tryz.sizeOf111
 v51:=Tryz.zeroValue111
 t53:=Tryz.underlying22
 a53:=Tryz.isAgg22
 z53:=Tryz.sizeOf22
 v53:=Tryz.zeroValue22
 t70:=Tryz.underlying186
 a70:=Tryz.isAgg186
 z70:=Tryz.sizeOf186
 v70:=Tryz.zeroValue186
 t72:=Tryz.underlying188
 a72:=Tryz.isAgg188
 z72:=Tryz.sizeOf188
 v72:=Tryz.zeroValue188
 t75:=Tryz.underlying190
 a75:=Tryz.isAgg190
 z75:=Tryz.sizeOf190
 v75:=Tryz.zeroValue190
 t76:=Tryz.underlying198
 a76:=Tryz.isAgg198
 z76:=Tryz.sizeOf198
 v76:=Tryz.zeroValue198
 t109:=Tryz.underlying200
 a109:=Tryz.isAgg200
 z109:=Tryz.sizeOf200
 v109:=Tryz.zeroValue200
 t127:=Tryz.underlying192
 a127:=Tryz.isAgg192
 z127:=Tryz.sizeOf192
 v127:=Tryz.zeroValue192
 t146:=Tryz.underlying222
 a146:=Tryz.isAgg222
 z146:=Tryz.sizeOf222
 v146:=Tryz.zeroValue222
 t148:=Tryz.underlying183
 a148:=Tryz.isAgg183
 z148:=Tryz.sizeOf183
 v148:=Tryz.zeroValue183
 t164:=Tryz.underlying225
 a164:=Tryz.isAgg225
 z164:=Tryz.sizeOf225
 v164:=Tryz.zeroValue225}
theorem Tryz.Builder_Extra_105:Builder.Extra Tryz.prog Tryz.lays105_ren:={
 sizeBuilder:=by kernel_rfl
 liesBuilder:=by kernel_rfl
 t5:=Tryz.underlying5
 a5:=Tryz.isAgg5
 z5:=Tryz.sizeOf5
 v5:=Tryz.zeroValue5
 infoByte:=by kernel_rfl
 cellsByte:=by kernel_rfl
 sizeByte:=by kernel_rfl
 neB5:=by decide}
open Go.RowKit Go.Lib in
theorem Tryz.strings_Repeat (s:ByteArray)(c:Nat)(w:World)(hc:c≤9223372036854775807)(hlen:s.size*c≤140737488355328):
  Calls Tryz.prog 150 #[.string s,.int .i64 c] w fun e w'=>e = .returned (.string ⟨(Lib.repeatL s.data.toList c).toArray⟩)∧Below w.heap.size w w':=Any.strings_Repeat Tryz.lays105 Tryz.Builder_Extra_105 s c w hc hlen
end Go.Proofs
namespace Go.Proofs.YtpggkfdijmnmiaaGreat
namespace Hs
def rorW (x:UInt32)(n:Nat): UInt32:=UInt32.ofNat (x.toNat*2 ^ (32 - n) % 4294967296|||x.toNat / 2 ^ n)
def shrW (x:UInt32)(n:Nat): UInt32:=UInt32.ofNat (x.toNat / 2 ^ n)
def fourL (x:UInt32): List UInt8:=[UInt8.ofNat (x.toNat / 16777216),UInt8.ofNat (x.toNat / 65536),UInt8.ofNat (x.toNat / 256),UInt8.ofNat x.toNat]
def sh8 (x:UInt32)(c:UInt8): UInt32:=UInt32.ofNat (x.toNat*256+c.toNat)
def nstep (b:List UInt8)(l:List UInt32)(i:Nat): List UInt32:=l.set (i / 4) (sh8 (l.getD (i / 4) 0) (b.getD i 0))
def numsTo (b:List UInt8)(i:Nat): List UInt32:=(List.range i).foldl (nstep b) (List.replicate 16 0)
def numsL (b:List UInt8): List UInt32:=numsTo b 64
def sig0 (x:UInt32): UInt32:=rorW x 7 ^^^ rorW x 18 ^^^ shrW x 3
def sig1 (x:UInt32): UInt32:=rorW x 17 ^^^ rorW x 19 ^^^ shrW x 10
def sstep (l:List UInt32)(i:Nat): List UInt32:=l.set i (l.getD (i - 16) 0+sig0 (l.getD (i - 15) 0)+l.getD (i - 7) 0+sig1 (l.getD (i - 2) 0))
def spreadTo (l:List UInt32)(i:Nat): List UInt32:=(List.range' 16 (i - 16)).foldl sstep (l++List.replicate 48 0)
def spreadL (l:List UInt32): List UInt32:=spreadTo l 64
def S1 (e:UInt32): UInt32:=rorW e 6 ^^^ rorW e 11 ^^^ rorW e 25
def S0 (a:UInt32): UInt32:=rorW a 2 ^^^ rorW a 13 ^^^ rorW a 22
def Ch (e f g:UInt32): UInt32:=e&&&f ^^^ g&&&~~~e
def Maj (a b c:UInt32): UInt32:=a&&&b ^^^ a&&&c ^^^ b&&&c
def turnL:List UInt32→UInt32→List UInt32
 |[a,b,c,d,e,f,g,h],n=>[(h+S1 e+Ch e f g+n)+(S0 a+Maj a b c),a,b,c,d+(h+S1 e+Ch e f g+n),e,f,g]
 |l,_=>l
def firstL:List UInt32:=[0x6a09e667,0xbb67ae85,0x3c6ef372,0xa54ff53a,0x510e527f,0x9b05688c,0x1f83d9ab,0x5be0cd19]
def kL:List UInt32:=[
 0x428a2f98,0x71374491,0xb5c0fbcf,0xe9b5dba5,0x3956c25b,0x59f111f1,0x923f82a4,0xab1c5ed5,
 0xd807aa98,0x12835b01,0x243185be,0x550c7dc3,0x72be5d74,0x80deb1fe,0x9bdc06a7,0xc19bf174,
 0xe49b69c1,0xefbe4786,0x0fc19dc6,0x240ca1cc,0x2de92c6f,0x4a7484aa,0x5cb0a9dc,0x76f988da,
 0x983e5152,0xa831c66d,0xb00327c8,0xbf597fc7,0xc6e00bf3,0xd5a79147,0x06ca6351,0x14292967,
 0x27b70a85,0x2e1b2138,0x4d2c6dfc,0x53380d13,0x650a7354,0x766a0abb,0x81c2c92e,0x92722c85,
 0xa2bfe8a1,0xa81a664b,0xc24b8b70,0xc76c51a3,0xd192e819,0xd6990624,0xf40e3585,0x106aa070,
 0x19a4c116,0x1e376c08,0x2748774c,0x34b0bcb5,0x391c0cb3,0x4ed8aa4a,0x5b9cca4f,0x682e6ff3,
 0x748f82ee,0x78a5636f,0x84c87814,0x8cc70208,0x90befffa,0xa4506ceb,0xbef9a3f7,0xc67178f2]
def turnsTo (w:List UInt32)(h:List UInt32)(i:Nat): List UInt32:=(List.range i).foldl (fun v i=>turnL v (kL.getD i 0+w.getD i 0)) h
def nextL (h:List UInt32)(b:List UInt8): List UInt32:=List.zipWith (· + ·) (turnsTo (spreadL (numsL b)) h 64) h
def thrL:Nat→List UInt32→List UInt8→List UInt32
 |0,h,_=>h
 |n+1,h,s=>thrL n (nextL h (s.take 64)) (s.drop 64)
def textL (h:List UInt32): List UInt8:=h.flatMap fourL
def behindL (n:Nat): List UInt8:=128::List.replicate ((119 - n % 64) % 64) 0++fourL (UInt32.ofNat (n*8 / 4294967296))++fourL (UInt32.ofNat (n*8))
def sumL (s:List UInt8): List UInt8:=textL (thrL ((s.length+72) / 64) firstL (s++behindL s.length))
def fillL (key:List UInt8): List UInt8:=
 (if 64<key.length then sumL key else key)++List.replicate (64 - (if 64<key.length then sumL key else key).length) 0
def turnedL (k:List UInt8)(by':UInt8): List UInt8:=k.map (· ^^^ by')
def macK (k s:List UInt8): List UInt8:=sumL (turnedL k 92++sumL (turnedL k 54++s))
def macL (key s:List UInt8): List UInt8:=macK (fillL key) s
end Hs
namespace Hs
open Go.RowKit
set_option maxHeartbeats 2000000
theorem sizeB:(Tryz.prog.info? 188).map (·.size)=some 2:=by kernel_rfl
theorem liesB:liesAt Tryz.prog Tryz.prog.depth 188 (2 / Tryz.prog.cellsOf 188) 0 188 1=true:=by kernel_rfl
theorem infoByte:(Tryz.prog.info? 5).map (fun i=>(i.zero,i.size,i.bytes))=some (some (.int .u8 0),1,1):=by kernel_rfl
set_option maxRecDepth 100000 in
theorem copyCheck_used (b:Nat)(w:World)(h0:w.cell? ⟨b,0,none⟩=some (.pointer (some ⟨b,0,none⟩))):
  Calls Tryz.prog 187 #[.pointer (some ⟨b,0,none⟩)] w fun e w'=>e = .returned (.tuple #[])∧w=w':=by
 obtain⟨j,hj,hjs⟩:=Option.map_eq_some_iff.1 sizeB;go_enter Tryz.func187,Tryz.ntmps187
 go_wp2
 rw [Lib.run_neq_ptr_same w _ Tryz.underlying186 hj]
 go_wp2
 go_end0
 exact⟨rfl,rfl⟩
set_option maxRecDepth 100000 in
theorem copyCheck_fresh (b:Nat)(w:World)(h0:w.cell? ⟨b,0,none⟩=some (.pointer none))(hsh:w.shape? b=some (188,2))(hfz:w.frozen? ⟨b,0,none⟩=false):
  Calls Tryz.prog 187 #[.pointer (some ⟨b,0,none⟩)] w fun e w'=>e = .returned (.tuple #[])∧w.setCell ⟨b,0,none⟩ (.pointer (some ⟨b,0,none⟩))=w':=by
 obtain⟨j,hj,hjs⟩:=Option.map_eq_some_iff.1 sizeB;go_enter Tryz.func187,Tryz.ntmps187
 go_wp2
 rw [Lib.run_to_unsafe w ⟨b,0,none⟩ Tryz.underlying186 Tryz.underlying225 hj (by rw [hjs];decide) hsh (Nat.zero_lt_succ 1)];simp only [Result.andThen];rw [Oper.upon_value]
 go_wp2
 rw [run_callFunc_extern Tryz.func200 (by kernel_rfl) (by kernel_rfl) (by kernel_rfl) (e:=Extern.AbiNoEscape.same) (by kernel_rfl)];rw [Lib.run_noEscape];simp only [Result.andThen];rw [Oper.upon_value]
 go_wp2
 rw [Lib.run_from_unsafe w ⟨b,0,none⟩ Tryz.underlying225 Tryz.underlying186 hj hsh liesB];simp only [Result.andThen];rw [Oper.upon_value]
 go_wp2
 go_end0
 exact⟨rfl,rfl⟩
theorem copyCheck_any (B b:Nat)(bs:List Value)(w:World)(h:Lib.IsBuilderF 188 5 B b bs w):
  Calls Tryz.prog 187 #[.pointer (some ⟨b,0,none⟩)] w fun e w'=>e = .returned (.tuple #[])∧Lib.BuilderAtF 188 5 B b (.pointer (some ⟨b,0,none⟩)) bs w'∧Below B w w'∧Lib.OthersKept 5 (some b) w w':=by
 rcases h with h | h
 ·refine(copyCheck_fresh b w h.cell0 h.shape h.frozen0).mono ?_;rintro e w' ⟨rfl,rfl⟩;exact⟨rfl,h.used _,(Below.refl B w).setCell (p:=⟨b,0,none⟩) h.1 _,(Lib.OthersKept.refl _ _ w).setCell ⟨b,0,none⟩ rfl _⟩
 ·refine(copyCheck_used b w h.cell0).mono ?_;rintro e w' ⟨rfl,rfl⟩;exact⟨rfl,h,Below.refl B _,Lib.OthersKept.refl _ _ _⟩
theorem blk_lt {w:World}{b:Nat}{o:Obj}(h:w.heap[b]?=some o): b<w.heap.size:=(Array.getElem?_eq_some_iff.1 h).1
set_option maxRecDepth 100000 in
theorem writeString_any (B b:Nat)(bs:List Value)(s:ByteArray)(w:World)(h:Lib.IsBuilderF 188 5 B b bs w)(hlen:bs.length+s.size≤140737488355328)(hBw:B≤w.heap.size):
  Calls Tryz.prog 173 #[.pointer (some ⟨b,0,none⟩),.string s] w fun e w'=>e = .returned (.tuple #[.int .i64 s.size,.nilIface])∧Lib.BuilderAtF 188 5 B b (.pointer (some ⟨b,0,none⟩)) (bs++Lib.strCells s) w'∧Below B w w'∧Lib.OthersKept 5 (some b) w w':=by
 obtain⟨i0,hi,hz0,hz1,hz2⟩:=info_parts infoByte;go_enter Tryz.func173,Tryz.ntmps173;go_wp2_with (go_at_call 187;refine(copyCheck_any B b bs _ h).mono ?_);rintro e w1 ⟨rfl,h1,hb1,hk1⟩;obtain⟨hB,v,hbk,hown,hne⟩:=h1;have c0:w1.cell? ⟨b,0,none⟩=some (.pointer (some ⟨b,0,none⟩)):=by rw [Lib.cell_of_heap hbk];rfl
 have c1:w1.cell? ⟨b,1,none⟩=some v:=by rw [Lib.cell_of_heap hbk];rfl
 have hsz:=hb1.size;go_wp2_with (at_builtin;refine Lib.wpList_append_own_stringF _ rfl _ _ 101 9 rfl B 5 i0 Tryz.underlying101 Tryz.underlying9 hi hz0 hz1 hz2 _ _ _ rfl hown s rfl ?c3 ?c4 ?c5 ?_)
 case c3=>unfold maxLen;omega
 case c4=>omega
 case c5=>omega
 intro v' w2 hown' hgrow _;have hb2:w2.heap[b]?=some (.cells #[.pointer (some ⟨b,0,none⟩),v] 188 (0,0)):=by
  rw [hgrow.block b (blk_lt hbk) (fun e=>hne e.symm)];exact hbk
 have d0:w2.cell? ⟨b,0,none⟩=some (.pointer (some ⟨b,0,none⟩)):=by rw [Lib.cell_of_heap hb2];rfl
 have d1:w2.cell? ⟨b,1,none⟩=some v:=by rw [Lib.cell_of_heap hb2];rfl
 have f1:w2.frozen? ⟨b,1,none⟩=false:=Lib.frozen_of_heap hb2 1;obtain⟨ao,n',cap,rfl⟩:∃ao n' cap,v' = .slice ao n' cap:=by
  rcases hown'.2 with ⟨hv,_⟩ | ⟨g,cap,cur,fz,hv,_⟩
  ·exact⟨_,_,_,hv⟩
  ·exact⟨_,_,_,hv⟩
 go_wp2
 go_ret2;refine⟨rfl,?_,?_,(hk1.grown hgrow (Lib.ownsRowF_kind hown)).setCell ⟨b,1,none⟩ rfl _⟩
 ·exact Lib.BuilderAtF.put hB hb2 (bs':=bs++Lib.strCells s) (by simpa [Lib.strCells_length] using hown') (by decide)
 ·exact(hb1.grown hgrow (by omega) (fun k hk=>(hown.lt k hk).1)).setCell (p:=⟨b,1,none⟩) hB _
def Bd (B:Nat)(l:List UInt8)(w:World): Prop:=Lib.IsBuilderF 188 5 B B (Lib.byteCells l) w
theorem Bd.start (w:World): Bd w.heap.size [] (w.alloc (.cells #[.pointer none,.slice none 0 0] 188)):=Lib.IsBuilderF.of (Lib.fresh_isBuilder 188 5 w)
theorem Bd.lt {B:Nat}{l:List UInt8}{w:World}(h:Bd B l w): B<w.heap.size:=by
 rcases h with h | h
 ·exact h.lt
 ·exact h.lt
theorem Bd.below {B:Nat}{l:List UInt8}{w w':World}(h:Bd B l w)(hb:Below w.heap.size w w'): Bd B l w':=by
 have key:∀ {p:Value},Lib.BuilderAtF 188 5 B B p (Lib.byteCells l) w→Lib.BuilderAtF 188 5 B B p (Lib.byteCells l) w':=by
  intro p h;obtain⟨hB,v,hbk,hown,hne⟩:=h;refine⟨hB,v,(hb.block _ (blk_lt hbk)).trans hbk,⟨hown.1,?_⟩,hne⟩;rcases hown.2 with hn | ⟨g,cap,cur,fz,hv,hg,hh,rest⟩
  ·exact .inl hn
  ·exact .inr ⟨g,cap,cur,fz,hv,hg,(hb.block _ (blk_lt hh)).trans hh,rest⟩
 exact h.elim (fun x=> .inl (key x)) (fun x=> .inr (key x))
theorem Bd.drew {B:Nat}{l:List UInt8}{w:World}(h:Bd B l w): Bd B l w.drew:=h
theorem write_s (B:Nat)(l:List UInt8)(s:ByteArray)(w:World)(h:Bd B l w)(hlen:l.length+s.size≤140737488355328):
  Calls Tryz.prog 173 #[.pointer (some ⟨B,0,none⟩),.string s] w fun e w'=>e = .returned (.tuple #[.int .i64 s.size,.nilIface])∧Bd B (l++s.data.toList) w'∧Below B w w'∧Lib.OthersKept 5 (some B) w w':=by
 refine(writeString_any B B (Lib.byteCells l) s w h (by rw [Lib.byteCells_length];exact hlen) (Nat.le_of_lt h.lt)).mono ?_;rintro e w' ⟨rfl,h1,h2,h3⟩;refine⟨rfl,.inr ?_,h2,h3⟩;rw [Lib.byteCells_append];exact h1
theorem string_b (B:Nat)(l:List UInt8)(w:World)(h:Bd B l w):
  Calls Tryz.prog 165 #[.pointer (some ⟨B,0,none⟩)] w fun e w'=>e = .returned (.string ⟨l.toArray⟩)∧Below B w w':=by
 refine(Tryz.Builder_String_any_k B B l w h (Nat.le_of_lt h.lt)).mono ?_;rintro e w' ⟨rfl,_,h2,_⟩;exact⟨rfl,h2⟩
end Hs
namespace Hs
open Go.RowKit
set_option maxHeartbeats 1000000
theorem ret_int {k:IntKind}{a b:Int}(h:a=b): Ending.returned (.int k a) = .returned (.int k b):=by rw [h]
theorem w_lt (x:UInt32): x.toNat<4294967296:=x.toNat_lt
theorem w_ofNat (n:Nat)(h:n<4294967296): (UInt32.ofNat n).toNat=n:=by
 rw [UInt32.toNat_ofNat'];exact Nat.mod_eq_of_lt h
theorem or_lt {a b:Nat}(ha:a<4294967296)(hb:b<4294967296): a|||b<4294967296:=Nat.or_lt_two_pow (n:=32) ha hb
theorem or_ror (x:UInt32)(n m d:Nat)(hm:m=2 ^ (32 - n))(hd:d=2 ^ n): bits .or .u32 ((x.toNat:Int)*m % 4294967296) ((x.toNat:Int) / d)=((rorW x n).toNat:Int):=by
 have h1:(x.toNat:Int)*m % 4294967296=((x.toNat*m % 4294967296:Nat):Int):=by simp
 have h2:(x.toNat:Int) / d=((x.toNat / d:Nat):Int):=by simp
 have l1:x.toNat*m % 4294967296<4294967296:=Nat.mod_lt _ (by decide);have l2:x.toNat / d<4294967296:=Nat.lt_of_le_of_lt (Nat.div_le_self _ _) (w_lt x);rw [h1,h2,u32_or_nat _ _ l1 l2,rorW,← hm,← hd,w_ofNat _ (or_lt l1 l2)]
theorem xorW (x y:UInt32): bits .xor .u32 (x.toNat:Int) (y.toNat:Int)=((x ^^^ y).toNat:Int):=by
 rw [u32_xor_nat _ _ (w_lt x) (w_lt y),UInt32.toNat_xor]
theorem andW (x y:UInt32): bits .and .u32 (x.toNat:Int) (y.toNat:Int)=((x&&&y).toNat:Int):=by
 rw [u32_and_nat _ _ (w_lt x) (w_lt y),UInt32.toNat_and]
theorem andNotW (x y:UInt32): bits .andNot .u32 (x.toNat:Int) (y.toNat:Int)=((x&&&~~~ y).toNat:Int):=by
 rw [u32_andNot_nat _ _ (w_lt x) (w_lt y),UInt32.toNat_and,UInt32.toNat_not];rfl
theorem addW (x y:UInt32): IntKind.u32.wrap ((x.toNat:Int)+(y.toNat:Int))=((x+y).toNat:Int):=by
 rw [IntKind.wrap_u32',UInt32.toNat_add];omega
theorem shrW_div (x:UInt32)(n d:Nat)(hd:d=2 ^ n): (x.toNat:Int) / d=((shrW x n).toNat:Int):=by
 have l2:x.toNat / d<4294967296:=Nat.lt_of_le_of_lt (Nat.div_le_self _ _) (w_lt x);rw [shrW,← hd,w_ofNat _ l2];simp
theorem xorB (x y:UInt8): bits .xor .u8 (x.toNat:Int) (y.toNat:Int)=((x ^^^ y).toNat:Int):=by
 rw [u8_xor_nat _ _ x.toNat_lt y.toNat_lt,UInt8.toNat_xor]
theorem sh8_or (x:UInt32)(c:UInt8): bits .or .u32 ((x.toNat:Int)*256 % 4294967296) (c.toNat:Int)=((sh8 x c).toNat:Int):=by
 have hc:=c.toNat_lt;have h1:(x.toNat:Int)*256 % 4294967296=((x.toNat*256 % 4294967296:Nat):Int):=by simp
 have l1:x.toNat*256 % 4294967296<4294967296:=Nat.mod_lt _ (by decide);rw [h1,u32_or_nat _ _ l1 (by omega),nat_join 8 _ _ (by omega) (by omega),sh8,UInt32.toNat_ofNat'];omega
theorem rotl2 (x:UInt32)(w:World):
  Calls Tryz.prog 216 #[.int .u32 (x.toNat:Int),.int .i64 (-2)] w fun e w'=>e = .returned (.int .u32 ((rorW x 2).toNat:Int))∧w=w':=by
 have hx:=x.toNat_lt;have hb:bits BinOp.and IntKind.u64 (IntKind.u64.wrap (-2)) 31=30:=by decide
 have ho:bits BinOp.or IntKind.u32 ((x.toNat:Int)*1073741824 % 4294967296) ((x.toNat:Int) / 4)=((rorW x 2).toNat:Int):=or_ror x 2 1073741824 4 (by decide) (by decide);go_enter Tryz.func216,Tryz.ntmps216
 go_wp2
 go_ret;exact⟨rfl,rfl⟩
theorem ror2 (x:UInt32)(w:World):
  Calls Tryz.prog 205 #[.int .u32 (x.toNat:Int),.int .i64 2] w fun e w'=>e = .returned (.int .u32 ((rorW x 2).toNat:Int))∧w=w':=by
 have hx:=x.toNat_lt;go_enter Tryz.func205,Tryz.ntmps205;go_wp2_with (go_at_call 216;refine(rotl2 x _).mono ?_;rintro e w' ⟨rfl,rfl⟩);go_ret;exact⟨rfl,rfl⟩
theorem rotl6 (x:UInt32)(w:World):
  Calls Tryz.prog 216 #[.int .u32 (x.toNat:Int),.int .i64 (-6)] w fun e w'=>e = .returned (.int .u32 ((rorW x 6).toNat:Int))∧w=w':=by
 have hx:=x.toNat_lt;have hb:bits BinOp.and IntKind.u64 (IntKind.u64.wrap (-6)) 31=26:=by decide
 have ho:bits BinOp.or IntKind.u32 ((x.toNat:Int)*67108864 % 4294967296) ((x.toNat:Int) / 64)=((rorW x 6).toNat:Int):=or_ror x 6 67108864 64 (by decide) (by decide);go_enter Tryz.func216,Tryz.ntmps216
 go_wp2
 go_ret;exact⟨rfl,rfl⟩
theorem ror6 (x:UInt32)(w:World):
  Calls Tryz.prog 205 #[.int .u32 (x.toNat:Int),.int .i64 6] w fun e w'=>e = .returned (.int .u32 ((rorW x 6).toNat:Int))∧w=w':=by
 have hx:=x.toNat_lt;go_enter Tryz.func205,Tryz.ntmps205;go_wp2_with (go_at_call 216;refine(rotl6 x _).mono ?_;rintro e w' ⟨rfl,rfl⟩);go_ret;exact⟨rfl,rfl⟩
theorem rotl7 (x:UInt32)(w:World):
  Calls Tryz.prog 216 #[.int .u32 (x.toNat:Int),.int .i64 (-7)] w fun e w'=>e = .returned (.int .u32 ((rorW x 7).toNat:Int))∧w=w':=by
 have hx:=x.toNat_lt;have hb:bits BinOp.and IntKind.u64 (IntKind.u64.wrap (-7)) 31=25:=by decide
 have ho:bits BinOp.or IntKind.u32 ((x.toNat:Int)*33554432 % 4294967296) ((x.toNat:Int) / 128)=((rorW x 7).toNat:Int):=or_ror x 7 33554432 128 (by decide) (by decide);go_enter Tryz.func216,Tryz.ntmps216
 go_wp2
 go_ret;exact⟨rfl,rfl⟩
theorem ror7 (x:UInt32)(w:World):
  Calls Tryz.prog 205 #[.int .u32 (x.toNat:Int),.int .i64 7] w fun e w'=>e = .returned (.int .u32 ((rorW x 7).toNat:Int))∧w=w':=by
 have hx:=x.toNat_lt;go_enter Tryz.func205,Tryz.ntmps205;go_wp2_with (go_at_call 216;refine(rotl7 x _).mono ?_;rintro e w' ⟨rfl,rfl⟩);go_ret;exact⟨rfl,rfl⟩
theorem rotl11 (x:UInt32)(w:World):
  Calls Tryz.prog 216 #[.int .u32 (x.toNat:Int),.int .i64 (-11)] w fun e w'=>e = .returned (.int .u32 ((rorW x 11).toNat:Int))∧w=w':=by
 have hx:=x.toNat_lt;have hb:bits BinOp.and IntKind.u64 (IntKind.u64.wrap (-11)) 31=21:=by decide
 have ho:bits BinOp.or IntKind.u32 ((x.toNat:Int)*2097152 % 4294967296) ((x.toNat:Int) / 2048)=((rorW x 11).toNat:Int):=or_ror x 11 2097152 2048 (by decide) (by decide);go_enter Tryz.func216,Tryz.ntmps216
 go_wp2
 go_ret;exact⟨rfl,rfl⟩
theorem ror11 (x:UInt32)(w:World):
  Calls Tryz.prog 205 #[.int .u32 (x.toNat:Int),.int .i64 11] w fun e w'=>e = .returned (.int .u32 ((rorW x 11).toNat:Int))∧w=w':=by
 have hx:=x.toNat_lt;go_enter Tryz.func205,Tryz.ntmps205;go_wp2_with (go_at_call 216;refine(rotl11 x _).mono ?_;rintro e w' ⟨rfl,rfl⟩);go_ret;exact⟨rfl,rfl⟩
theorem rotl13 (x:UInt32)(w:World):
  Calls Tryz.prog 216 #[.int .u32 (x.toNat:Int),.int .i64 (-13)] w fun e w'=>e = .returned (.int .u32 ((rorW x 13).toNat:Int))∧w=w':=by
 have hx:=x.toNat_lt;have hb:bits BinOp.and IntKind.u64 (IntKind.u64.wrap (-13)) 31=19:=by decide
 have ho:bits BinOp.or IntKind.u32 ((x.toNat:Int)*524288 % 4294967296) ((x.toNat:Int) / 8192)=((rorW x 13).toNat:Int):=or_ror x 13 524288 8192 (by decide) (by decide);go_enter Tryz.func216,Tryz.ntmps216
 go_wp2
 go_ret;exact⟨rfl,rfl⟩
theorem ror13 (x:UInt32)(w:World):
  Calls Tryz.prog 205 #[.int .u32 (x.toNat:Int),.int .i64 13] w fun e w'=>e = .returned (.int .u32 ((rorW x 13).toNat:Int))∧w=w':=by
 have hx:=x.toNat_lt;go_enter Tryz.func205,Tryz.ntmps205;go_wp2_with (go_at_call 216;refine(rotl13 x _).mono ?_;rintro e w' ⟨rfl,rfl⟩);go_ret;exact⟨rfl,rfl⟩
theorem rotl17 (x:UInt32)(w:World):
  Calls Tryz.prog 216 #[.int .u32 (x.toNat:Int),.int .i64 (-17)] w fun e w'=>e = .returned (.int .u32 ((rorW x 17).toNat:Int))∧w=w':=by
 have hx:=x.toNat_lt;have hb:bits BinOp.and IntKind.u64 (IntKind.u64.wrap (-17)) 31=15:=by decide
 have ho:bits BinOp.or IntKind.u32 ((x.toNat:Int)*32768 % 4294967296) ((x.toNat:Int) / 131072)=((rorW x 17).toNat:Int):=or_ror x 17 32768 131072 (by decide) (by decide);go_enter Tryz.func216,Tryz.ntmps216
 go_wp2
 go_ret;exact⟨rfl,rfl⟩
theorem ror17 (x:UInt32)(w:World):
  Calls Tryz.prog 205 #[.int .u32 (x.toNat:Int),.int .i64 17] w fun e w'=>e = .returned (.int .u32 ((rorW x 17).toNat:Int))∧w=w':=by
 have hx:=x.toNat_lt;go_enter Tryz.func205,Tryz.ntmps205;go_wp2_with (go_at_call 216;refine(rotl17 x _).mono ?_;rintro e w' ⟨rfl,rfl⟩);go_ret;exact⟨rfl,rfl⟩
theorem rotl18 (x:UInt32)(w:World):
  Calls Tryz.prog 216 #[.int .u32 (x.toNat:Int),.int .i64 (-18)] w fun e w'=>e = .returned (.int .u32 ((rorW x 18).toNat:Int))∧w=w':=by
 have hx:=x.toNat_lt;have hb:bits BinOp.and IntKind.u64 (IntKind.u64.wrap (-18)) 31=14:=by decide
 have ho:bits BinOp.or IntKind.u32 ((x.toNat:Int)*16384 % 4294967296) ((x.toNat:Int) / 262144)=((rorW x 18).toNat:Int):=or_ror x 18 16384 262144 (by decide) (by decide);go_enter Tryz.func216,Tryz.ntmps216
 go_wp2
 go_ret;exact⟨rfl,rfl⟩
theorem ror18 (x:UInt32)(w:World):
  Calls Tryz.prog 205 #[.int .u32 (x.toNat:Int),.int .i64 18] w fun e w'=>e = .returned (.int .u32 ((rorW x 18).toNat:Int))∧w=w':=by
 have hx:=x.toNat_lt;go_enter Tryz.func205,Tryz.ntmps205;go_wp2_with (go_at_call 216;refine(rotl18 x _).mono ?_;rintro e w' ⟨rfl,rfl⟩);go_ret;exact⟨rfl,rfl⟩
theorem rotl19 (x:UInt32)(w:World):
  Calls Tryz.prog 216 #[.int .u32 (x.toNat:Int),.int .i64 (-19)] w fun e w'=>e = .returned (.int .u32 ((rorW x 19).toNat:Int))∧w=w':=by
 have hx:=x.toNat_lt;have hb:bits BinOp.and IntKind.u64 (IntKind.u64.wrap (-19)) 31=13:=by decide
 have ho:bits BinOp.or IntKind.u32 ((x.toNat:Int)*8192 % 4294967296) ((x.toNat:Int) / 524288)=((rorW x 19).toNat:Int):=or_ror x 19 8192 524288 (by decide) (by decide);go_enter Tryz.func216,Tryz.ntmps216
 go_wp2
 go_ret;exact⟨rfl,rfl⟩
theorem ror19 (x:UInt32)(w:World):
  Calls Tryz.prog 205 #[.int .u32 (x.toNat:Int),.int .i64 19] w fun e w'=>e = .returned (.int .u32 ((rorW x 19).toNat:Int))∧w=w':=by
 have hx:=x.toNat_lt;go_enter Tryz.func205,Tryz.ntmps205;go_wp2_with (go_at_call 216;refine(rotl19 x _).mono ?_;rintro e w' ⟨rfl,rfl⟩);go_ret;exact⟨rfl,rfl⟩
theorem rotl22 (x:UInt32)(w:World):
  Calls Tryz.prog 216 #[.int .u32 (x.toNat:Int),.int .i64 (-22)] w fun e w'=>e = .returned (.int .u32 ((rorW x 22).toNat:Int))∧w=w':=by
 have hx:=x.toNat_lt;have hb:bits BinOp.and IntKind.u64 (IntKind.u64.wrap (-22)) 31=10:=by decide
 have ho:bits BinOp.or IntKind.u32 ((x.toNat:Int)*1024 % 4294967296) ((x.toNat:Int) / 4194304)=((rorW x 22).toNat:Int):=or_ror x 22 1024 4194304 (by decide) (by decide);go_enter Tryz.func216,Tryz.ntmps216
 go_wp2
 go_ret;exact⟨rfl,rfl⟩
theorem ror22 (x:UInt32)(w:World):
  Calls Tryz.prog 205 #[.int .u32 (x.toNat:Int),.int .i64 22] w fun e w'=>e = .returned (.int .u32 ((rorW x 22).toNat:Int))∧w=w':=by
 have hx:=x.toNat_lt;go_enter Tryz.func205,Tryz.ntmps205;go_wp2_with (go_at_call 216;refine(rotl22 x _).mono ?_;rintro e w' ⟨rfl,rfl⟩);go_ret;exact⟨rfl,rfl⟩
theorem rotl25 (x:UInt32)(w:World):
  Calls Tryz.prog 216 #[.int .u32 (x.toNat:Int),.int .i64 (-25)] w fun e w'=>e = .returned (.int .u32 ((rorW x 25).toNat:Int))∧w=w':=by
 have hx:=x.toNat_lt;have hb:bits BinOp.and IntKind.u64 (IntKind.u64.wrap (-25)) 31=7:=by decide
 have ho:bits BinOp.or IntKind.u32 ((x.toNat:Int)*128 % 4294967296) ((x.toNat:Int) / 33554432)=((rorW x 25).toNat:Int):=or_ror x 25 128 33554432 (by decide) (by decide);go_enter Tryz.func216,Tryz.ntmps216
 go_wp2
 go_ret;exact⟨rfl,rfl⟩
theorem ror25 (x:UInt32)(w:World):
  Calls Tryz.prog 205 #[.int .u32 (x.toNat:Int),.int .i64 25] w fun e w'=>e = .returned (.int .u32 ((rorW x 25).toNat:Int))∧w=w':=by
 have hx:=x.toNat_lt;go_enter Tryz.func205,Tryz.ntmps205;go_wp2_with (go_at_call 216;refine(rotl25 x _).mono ?_;rintro e w' ⟨rfl,rfl⟩);go_ret;exact⟨rfl,rfl⟩
theorem fourL_get (x:UInt32): (fourL x).map (fun c=>Value.int .u8 (c.toNat:Int))=[.int .u8 ((x.toNat:Int) / 16777216),.int .u8 ((x.toNat:Int) / 65536 % 256),.int .u8 ((x.toNat:Int) / 256 % 256),.int .u8 ((x.toNat:Int) % 256)]:=by
 have hx:=w_lt x;simp only [fourL,List.map_cons,List.map_nil,UInt8.toNat_ofNat'];have e1:((x.toNat / 16777216 % 2 ^ 8:Nat):Int)=(x.toNat:Int) / 16777216:=by omega
 have e2:((x.toNat / 65536 % 2 ^ 8:Nat):Int)=(x.toNat:Int) / 65536 % 256:=by omega
 have e3:((x.toNat / 256 % 2 ^ 8:Nat):Int)=(x.toNat:Int) / 256 % 256:=by omega
 have e4:((x.toNat % 2 ^ 8:Nat):Int)=(x.toNat:Int) % 256:=by omega
 rw [e1,e2,e3,e4]
theorem conv_row {w:World}{b:Nat}{l:List UInt8}{c:Nat}{T:TypeId}{z:Nat×Nat}(h:w.heap[b]?=some (.cells (l.map (fun c=>Value.int .u8 (c.toNat:Int))).toArray T z)):
  (convert 101 9 (.slice (some ⟨b,0,none⟩) l.length c)).run Tryz.prog w = .ok (.string ⟨l.toArray⟩) w:=
 run_convert_bytes_back w 101 9 5 _ c l Tryz.underlying101 Tryz.underlying5 Tryz.underlying9 (fun j hj=>by
  rw [show(⟨b,0,none⟩:Addr).add j=⟨b,j,none⟩ from by unfold Addr.add;split<;>simp_all,Lib.cell_of_heap h];simp [hj])
theorem four_any (x:UInt32)(w:World):
  Calls Tryz.prog 172 #[.int .u32 (x.toNat:Int)] w fun e w'=>e = .returned (.string ⟨(fourL x).toArray⟩)∧Below w.heap.size w w':=by
 have hx:=x.toNat_lt;have hc:(convert 101 9 (.slice (some ⟨w.heap.size,0,none⟩) 4 4)).run Tryz.prog (w.alloc (Obj.cells #[.int .u8 ((x.toNat:Int) / 16777216),.int .u8 ((x.toNat:Int) / 65536 % 256),.int .u8 ((x.toNat:Int) / 256 % 256),.int .u8 ((x.toNat:Int) % 256)] 5)) = .ok (.string ⟨(fourL x).toArray⟩) _:=
  conv_row (l:=fourL x) (c:=4) (b:=w.heap.size) (by rw [fourL_get];exact Go.heap_alloc_new w _)
 go_enter Tryz.func172,Tryz.ntmps172
 go_wp2
 go_ret;exact⟨rfl,(Below.refl _ _).alloc (Nat.le_refl _) _⟩
end Hs
namespace Hs
open Go.RowKit
set_option maxHeartbeats 2000000
theorem app_ba (a b:List UInt8): (⟨a.toArray⟩:ByteArray)++⟨b.toArray⟩=⟨(a++b).toArray⟩:=by
 apply ByteArray.ext;simp
theorem size_ba (s:List UInt8): (⟨s.toArray⟩:ByteArray).size=s.length:=by simp [ByteArray.size]
theorem repeat_one (c:UInt8)(n:Nat): Lib.repeatL [c] n=List.replicate n c:=by
 induction n with
 |zero=>rfl
 |succ n ih=>simp_all [Lib.repeatL,List.replicate_succ]
theorem fourL_length (x:UInt32): (fourL x).length=4:=rfl
theorem behind_any (n:Nat)(hn:n≤281474976710656)(w:World):
  Calls Tryz.prog 148 #[.int .i64 n] w fun e w'=>e = .returned (.string ⟨(behindL n).toArray⟩)∧Below w.heap.size w w':=by
 have hn1:(n:Int)≤281474976710656:=by omega
 have hn0:(0:Int)≤n:=by omega
 obtain⟨z,hz⟩:∃z:Nat,z=(119 - n % 64) % 64:=⟨_,rfl⟩;have hz1:z≤63:=by omega
 have ez:(119 - (n:Int) % 64) % 64=(z:Int):=by omega
 have eh:((n:Int)*8 / 4294967296)=((UInt32.ofNat (n*8 / 4294967296)).toNat:Int):=by
  rw [w_ofNat _ (by omega)];omega
 have el:IntKind.u32.wrap ((n:Int)*8)=((UInt32.ofNat (n*8)).toNat:Int):=by
  rw [IntKind.wrap_u32',UInt32.toNat_ofNat'];omega
 have HE:Hid (behindL n=128::List.replicate z 0++fourL (UInt32.ofNat (n*8 / 4294967296))++fourL (UInt32.ofNat (n*8))):=Lib.hid (by unfold behindL;rw [hz]);have HZ:=Lib.hid hz;clear hz;have H1:=Lib.hid (four_any (UInt32.ofNat (n*8 / 4294967296)));have H2:=Lib.hid (four_any (UInt32.ofNat (n*8)));have L1:=fourL_length (UInt32.ofNat (n*8 / 4294967296));have L2:=fourL_length (UInt32.ofNat (n*8));generalize fourL (UInt32.ofNat (n*8 / 4294967296))=X1 at H1 HE L1;generalize fourL (UInt32.ofNat (n*8))=X2 at H2 HE L2;have S1:=size_ba X1;have S2:=size_ba X2;have l1:X1.length≤4:=by omega
 have l2:X2.length≤4:=by omega
 clear L1 L2;generalize hy1:UInt32.ofNat (n*8 / 4294967296)=y1 at eh H1;generalize hy2:UInt32.ofNat (n*8)=y2 at el H2;clear hy1 hy2;have HR:=Lib.hid (Tryz.strings_Repeat ⟨#[0]⟩ z);have er:Lib.repeatL (⟨#[0]⟩:ByteArray).data.toList z=List.replicate z 0:=repeat_one 0 z;rw [er] at HR;have lR:(List.replicate z (0:UInt8)).length≤63:=by rw [List.length_replicate];exact hz1
 have a1:(⟨#[128]⟩:ByteArray)++⟨(List.replicate z (0:UInt8)).toArray⟩=⟨(128::List.replicate z 0).toArray⟩:=app_ba [128] _;have a2:=app_ba (128::List.replicate z 0) X1;have a3:=app_ba (128::List.replicate z 0++X1) X2;clear er;generalize List.replicate z (0:UInt8)=R at HR a1 a2 a3 lR HE;rw [HE.out];clear HE HZ;go_enter Tryz.func148,Tryz.ntmps148;go_wp2_with fail;refine(HR.out _ (by omega) (by show 1*z≤_;omega)).mono ?_;rintro e w1 ⟨rfl,b1⟩;go_wp2_with fail;refine(H1.out _).mono ?_;rintro e w2 ⟨rfl,b2⟩;go_wp2_with fail;refine(H2.out _).mono ?_;rintro e w3 ⟨rfl,b3⟩;go_wp2_with fail;go_ret;exact⟨rfl,(b1.trans (b2.mono b1.size)).trans (b3.mono (by have:=b1.size;have:=b2.size;omega))⟩
theorem byteAt_any (s:List UInt8)(i:Nat)(hi:i≤140737488355328)(w:World):
  Calls Tryz.prog 137 #[.string ⟨s.toArray⟩,.int .i64 i] w fun e w'=>e = .returned (.int .u8 ((s.getD i 0).toNat:Int))∧w=w':=by
 have hsz:(⟨s.toArray⟩:ByteArray).size=s.length:=by simp [ByteArray.size]
 by_cases h:i<s.length
 ·have hg:s.getD i 0=s[i]:=by simp [List.getD,h]
  rw [hg];clear hg;go_enter Tryz.func137,Tryz.ntmps137;go_wp2_with fail;go_ret;exact⟨rfl,rfl⟩
 ·have hg:s.getD i 0=0:=by simp [List.getD,h]
  rw [hg];clear hg;go_enter Tryz.func137,Tryz.ntmps137;go_wp2_with fail;go_ret;exact⟨rfl,rfl⟩
end Hs
namespace Hs
open Go.RowKit
open Go.Lib renaming hid→Φ
def ws (l:List UInt32): Array Value:=(l.map fun x=>Value.int .u32 (x.toNat:Int)).toArray
def bs (l:List UInt8): Array Value:=(l.map fun x=>Value.int .u8 (x.toNat:Int)).toArray
theorem ws_size (l:List UInt32): (ws l).size=l.length:=by simp [ws]
theorem bs_size (l:List UInt8): (bs l).size=l.length:=by simp [bs]
theorem ws_get (l:List UInt32)(i:Nat)(h:i<l.length): (ws l)[i]?=some (.int .u32 (l[i].toNat:Int)):=by simp [ws,h]
theorem bs_get (l:List UInt8)(i:Nat)(h:i<l.length): (bs l)[i]?=some (.int .u8 (l[i].toNat:Int)):=by simp [bs,h]
theorem blk_cell {w:World}{b:Nat}{cs:Array Value}{T:TypeId}{z:Nat×Nat}(h:w.heap[b]?=some (.cells cs T z))(o:Nat): w.cell? ⟨b,o,none⟩=cs[o]?:=by
 rw [Lib.cell_of_heap h]
theorem i37 (l:List UInt32)(h:l.length=8): (Tryz.prog.info? 169).map (·.size)=some (ws l).size:=by
 rw [ws_size,h];kernel_rfl
theorem u37:Tryz.prog.underlying 169=some (.array 8 111):=by kernel_rfl
theorem run_index37 (cs:Array Value)(k:Nat)(hk:k<8)(v:Value)(hv:cs[k]?=some v)(h1:v.oneCell'=true)(w:World): (Instr.index 169 (.agg cs) (.int .i64 (k:Int))).run Tryz.prog w = .ok v w:=by
 have hz:(sizeOf 111).run Tryz.prog w = .ok 1 w:=Tryz.sizeOf111 w;unfold Instr.index;simp [asIntOf,run_underlying u37 w,hk,hz,hv,part]
theorem textL_length (l:List UInt32): (textL l).length=4*l.length:=by
 induction l with
 |nil=>rfl
 |cons x l ih=>simp only [textL,List.flatMap_cons,List.length_append,List.length_cons] at ih ⊢;rw [ih,fourL_length];omega
theorem textL_snoc (h:List UInt32)(k:Nat)(hk:k<h.length): textL (h.take (k+1))=textL (h.take k)++fourL h[k]:=by
 unfold textL;rw [List.take_succ_eq_append_getElem hk,List.flatMap_append];simp
set_option maxHeartbeats 2000000 in
theorem text_any (h:List UInt32)(hl:h.length=8)(w:World):
  Calls Tryz.prog 149 #[.agg (ws h)] w fun e w'=>e = .returned (.string ⟨(textL h).toArray⟩)∧Below w.heap.size w w':=by
 have HL:=Φ hl;have HK:=Φ (show((w.alloc (.cells (ws h) 169)).alloc (.cells #[Value.pointer none,Value.slice none 0 0] 188)).heap[w.heap.size]?=some (.cells (ws h) 169 (0,0)) from by
  rw [Lib.alloc_old _ _ _ (by simp)];exact Go.heap_alloc_new w (.cells (ws h) 169))
 clear hl;go_enter Tryz.func149,Tryz.ntmps149;go_wp2_with (with_reducible refine wpList_load_row rfl 169 (.tmp 1) rfl w.heap.size rfl 169 (ws h) (0,0) (.array 8 111) HK.out u37 rfl (i37 h HL.out) ?_)
 go_loopw [7] (fun i wr=>∃k:Nat,k≤8∧i = .int .i64 k∧Bd (w.heap.size+1) (textL (h.take k)) wr∧Below w.heap.size w wr) (fun i _=>8 - (intOf i).toNat)
 case atStart=>
  refine⟨0,by omega,rfl,?_,((Below.refl _ _).alloc (Nat.le_refl _) _).alloc (by simp) _⟩
  have:=Bd.start (w.alloc (.cells (ws h) 169))
  simpa [textL] using this
 case round=>
  obtain⟨k,hk,rfl,hbd,hb⟩:=hrel;have HB:=Φ hbd;have HW:=Φ hb;clear hbd hb HK
  by_cases hlt:k<8
  ·have hg:=ws_get h k (by rw [HL.out];exact hlt);have hix:=run_index37 (ws h) k hlt _ hg rfl;generalize hx:h[k]'(by rw [HL.out];exact hlt)=x at hg hix;have HX:=Φ hx;clear hx hg;have HF:=Φ (four_any x wr);have HS:Hid (textL (h.take (k+1))=textL (h.take k)++fourL x):=Φ (by rw [textL_snoc h k (by rw [HL.out];exact hlt),HX.out]);have HN:Hid ((textL (h.take k)).length≤32):=Φ (by rw [textL_length,List.length_take];omega);clear HX;go_wp2_with fail;refine HF.out.mono ?_;rintro e w1 ⟨rfl,b1⟩;have HW1:=Φ (write_s (w.heap.size+1) (textL (h.take k)) ⟨(fourL x).toArray⟩ w1 (HB.out.below b1) (by have:=HN.out;rw [size_ba,fourL_length];omega));have HB1:=Φ (HW.out.trans (b1.mono HW.out.size));clear HF HB HW b1;go_wp2_with fail;refine HW1.out.mono ?_;rintro e w2 ⟨rfl,hbd,hb2,_⟩;have hB2:Bd (w.heap.size+1) (textL (h.take (k+1))) w2:=by rw [HS.out];exact hbd
   have hb2:=HB1.out.trans (hb2.mono (by omega));have HB2:=Φ hB2;have HW2:=Φ hb2;clear hbd hb2 HW1 HB1 HS hB2;go_wp2_with fail
   go_roundw
   case rel=>exact⟨k+1,by omega,by go_num,HB2.out,HW2.out⟩
   case measure=>simp [intOf];omega
  ·have HS:=Φ (string_b (w.heap.size+1) (textL (h.take k)) wr HB.out);have HE:Hid (textL (h.take k)=textL h):=Φ (by rw [List.take_of_length_le (by rw [HL.out];omega)]);rw [HE.out] at HS;go_wp2_with fail;refine HS.out.mono ?_;rintro e w1 ⟨rfl,b1⟩;have HB1:=Φ (HW.out.trans (b1.mono (by omega)));clear HS HB HW b1;go_wp2_with fail;go_ret;exact⟨rfl,HB1.out⟩
end Hs
namespace Hs
open Go.RowKit
open Go.Lib renaming hid→Φ
set_option maxHeartbeats 2000000
theorem blk_put {w:World}{b:Nat}{cs:Array Value}{T:TypeId}{z:Nat×Nat}(h:w.heap[b]?=some (.cells cs T z))(o:Nat)(v:Value): (w.setCell ⟨b,o,none⟩ v).heap[b]?=some (.cells (cs.setIfInBounds o v) T z):=by
 simp [World.setCell,Array.getElem?_modify,h]
theorem bs_set (l:List UInt8)(o:Nat)(x:UInt8): (bs l).setIfInBounds o (.int .u8 (x.toNat:Int))=bs (l.set o x):=by
 simp [bs,List.map_set]
theorem ws_set (l:List UInt32)(o:Nat)(x:UInt32): (ws l).setIfInBounds o (.int .u32 (x.toNat:Int))=ws (l.set o x):=by
 simp [ws,List.map_set]
def pref {α:Type}(f:α→α)(k:List α)(j:Nat): List α:=(k.take j).map f++k.drop j
theorem pref_length {α:Type}(f:α→α)(k:List α)(j:Nat): (pref f k j).length=k.length:=by
 simp [pref];omega
theorem pref_get {α:Type}(f:α→α)(k:List α)(j:Nat)(h:j<k.length): (pref f k j)[j]'(by rw [pref_length];exact h)=k[j]:=by
 simp only [pref];rw [List.getElem_append_right (by simp;omega)];simp [Nat.min_eq_left (Nat.le_of_lt h)]
theorem pref_set {α:Type}(f:α→α)(k:List α)(j:Nat)(h:j<k.length): (pref f k j).set j (f k[j])=pref f k (j+1):=by
 simp only [pref];have e:j - ((k.take j).map f).length=0:=by simp;omega
 rw [List.set_append_right _ _ (by simp;omega),e,List.drop_eq_getElem_cons h,List.set_cons_zero,List.take_succ_eq_append_getElem h,List.map_append,List.append_assoc];rfl
theorem pref_all {α:Type}(f:α→α)(k:List α)(j:Nat)(h:k.length≤j): pref f k j=k.map f:=by
 simp [pref,List.take_of_length_le h,List.drop_of_length_le h]
theorem turned_any (k:List UInt8)(hk:k.length=64)(c:UInt8)(w:World):
  Calls Tryz.prog 140 #[.agg (bs k),.int .u8 (c.toNat:Int)] w fun e w'=>e = .returned (.string ⟨(turnedL k c).toArray⟩)∧Below w.heap.size w w':=by
 have HL:=Φ hk;have HK:=Φ (Go.heap_alloc_new w (.cells (bs k) 129));clear hk;go_enter Tryz.func140,Tryz.ntmps140;go_wp2_with fail
 go_loopw [6] (fun i wr=>∃j:Nat,j≤64∧i = .int .i64 j∧wr.heap[w.heap.size]?=some (.cells (bs (pref (· ^^^ c) k j)) 129 (0,0))∧Below w.heap.size w wr) (fun i _=>64 - (intOf i).toNat)
 case atStart=>
  exact⟨0,by omega,rfl,HK.out,(Below.refl _ _).alloc (Nat.le_refl _) _⟩
 case round=>
  obtain⟨j,hj,rfl,hb,hw⟩:=hrel;have HB:=Φ hb;have HW:=Φ hw;clear hb hw HK
  by_cases hlt:j<64
  ·have hjl:j<k.length:=by rw [HL.out];exact hlt
   have x0:=(blk_cell HB.out j).trans (bs_get _ j (by rw [pref_length];exact hjl));have f0:=Lib.frozen_of_heap HB.out j;rw [pref_get _ _ _ hjl] at x0;have hx:=xorB k[j] c;have HP:=Φ (pref_set (· ^^^ c) k j hjl);generalize k[j]=x at x0 hx HP;generalize hy:x ^^^ c=y at hx HP;have HP2:Hid ((pref (· ^^^ c) k j).set j y=pref (· ^^^ c) k (j+1)):=Φ (by rw [← HP.out,← hy]);clear HP hy hjl;go_wp2_with fail;have HB2:=Φ (blk_put HB.out j (.int .u8 (y.toNat:Int)));rw [bs_set,HP2.out] at HB2;have HW2:=Φ (HW.out.setCell (p:=⟨w.heap.size,j,none⟩) (Nat.le_refl _) (.int .u8 (y.toNat:Int)))
   go_roundw
   case rel=>exact⟨j+1,by omega,by go_num,HB2.out,HW2.out⟩
   case measure=>simp [intOf];omega
  ·have HE:Hid (pref (· ^^^ c) k j=turnedL k c):=Φ (pref_all _ _ _ (by rw [HL.out];omega));rw [HE.out] at HB;have hc:(convert 101 9 (.slice (some ⟨w.heap.size,0,none⟩) 64 64)).run Tryz.prog wr = .ok (.string ⟨(turnedL k c).toArray⟩) wr:=by
    have:=conv_row (c:=64) HB.out
    rwa [show(turnedL k c).length=64 from by unfold turnedL;rw [List.length_map];exact HL.out] at this
   go_wp2_with fail;go_ret;exact⟨rfl,HW.out⟩
def unl (a b:List UInt8)(k:Nat): Bool:=decide (a.length=b.length∧∀i,i<k→a.getD i 0=b.getD i 0)
theorem same_iff (a b:List UInt8): unl a b (max a.length b.length)=decide (a=b):=by
 unfold unl;rw [decide_eq_decide];constructor
 ·rintro⟨h1,h2⟩;apply List.ext_getElem h1
  intro i hi hi'
  have:=h2 i (by omega)
  simpa [List.getD,hi,hi'] using this
 ·rintro rfl;exact⟨rfl,fun _ _=>rfl⟩
theorem xor_lt48 {a b:Nat}(ha:a<281474976710656)(hb:b<281474976710656): a ^^^ b<281474976710656:=Nat.xor_lt_two_pow (n:=48) ha hb
theorem or_lt48 {a b:Nat}(ha:a<281474976710656)(hb:b<281474976710656): a|||b<281474976710656:=Nat.or_lt_two_pow (n:=48) ha hb
theorem i64_xor (a b:Nat)(ha:a<281474976710656)(hb:b<281474976710656): bits .xor .i64 (a:Int) (b:Int)=((a ^^^ b:Nat):Int):=by
 have:=xor_lt48 ha hb
 show IntKind.i64.wrap ((BitVec.ofInt 64 (a:Int) ^^^ BitVec.ofInt 64 (b:Int)).toNat:Int)=_
 rw [BitVec.toNat_xor,ofInt_u64 a (by omega),ofInt_u64 b (by omega)];exact IntWalk.i64_in _ (by omega)
theorem i64_or (a b:Nat)(ha:a<281474976710656)(hb:b<281474976710656): bits .or .i64 (a:Int) (b:Int)=((a|||b:Nat):Int):=by
 have:=or_lt48 ha hb
 show IntKind.i64.wrap ((BitVec.ofInt 64 (a:Int)|||BitVec.ofInt 64 (b:Int)).toNat:Int)=_
 rw [BitVec.toNat_or,ofInt_u64 a (by omega),ofInt_u64 b (by omega)];exact IntWalk.i64_in _ (by omega)
theorem or_zero (a b:Nat): a|||b=0↔a=0∧b=0:=Nat.or_eq_zero_iff
theorem xor_zero (a b:Nat): a ^^^ b=0↔a=b:=
 ⟨fun h=>by have:=congrArg (· ^^^ b) h;simpa [Nat.xor_assoc,Nat.xor_self] using this,fun h=>by rw [h,Nat.xor_self]⟩
theorem xor_zero8 (x y:UInt8): (x ^^^ y).toNat=0↔x=y:=by
 rw [UInt8.toNat_xor,xor_zero,UInt8.toNat_inj]
theorem unl_next (a b:List UInt8)(k n:Nat)(h:n=0↔unl a b k=true): (n|||(a.getD k 0 ^^^ b.getD k 0).toNat)=0↔unl a b (k+1)=true:=by
 rw [or_zero,h,xor_zero8];unfold unl;rw [decide_eq_true_iff,decide_eq_true_iff];constructor
 ·rintro⟨⟨h1,h2⟩,h3⟩;refine⟨h1,fun i hi=>?_⟩
  by_cases e:i=k
  ·subst e;exact h3
  ·exact h2 i (by omega)
 ·rintro⟨h1,h2⟩;exact⟨⟨h1,fun i hi=>h2 i (by omega)⟩,h2 k (by omega)⟩
def UnlI (a b:List UInt8)(M:Nat)(u i:Value): Prop:=∃k n:Nat,k≤M∧n<281474976710656∧u = .int .i64 n∧i = .int .i64 k∧(n=0↔unl a b k=true)
theorem same_any (a b:List UInt8)(ha:a.length≤140737488355328)(hb:b.length≤140737488355328)(w:World):
  Calls Tryz.prog 82 #[.string ⟨a.toArray⟩,.string ⟨b.toArray⟩] w fun e w'=>e = .returned (.bool (decide (a=b)))∧w=w':=by
 have HE:=Φ (same_iff a b);obtain⟨M,hM⟩:∃M:Nat,M=max a.length b.length:=⟨_,rfl⟩;have em:max (a.length:Int) (b.length:Int)=(M:Int):=by omega
 have hM1:(M:Int)≤140737488355328:=by omega
 have ex:=i64_xor a.length b.length (by omega) (by omega);obtain⟨X,hX⟩:∃X:Nat,X=a.length ^^^ b.length:=⟨_,rfl⟩;have HX0:Hid (X<281474976710656∧(X=0↔unl a b 0=true)):=Φ ⟨by rw [hX];exact xor_lt48 (by omega) (by omega),by rw [hX,xor_zero];simp [unl]⟩;rw [← hX] at ex;rw [← hM] at HE;clear hM hX ha hb;go_enter Tryz.func82,Tryz.ntmps82;go_wp2_with fail
 go_loop [5,17] (UnlI a b M) (fun _ i=>M - (intOf i).toNat)
 case atStart=>exact⟨0,X,by omega,HX0.out.1,rfl,rfl,HX0.out.2⟩
 case round=>
  obtain⟨k,n,hk,hn,rfl,rfl,hi⟩:=hrel;have HI:=Φ hi;clear hi ex em HX0
  by_cases hlt:k<M
  ·have HC1:=Φ (byteAt_any a k (by omega) w);have HC2:=Φ (byteAt_any b k (by omega) w);have HN:=Φ (unl_next a b k n HI.out);generalize a.getD k 0=x at HC1 HN;generalize b.getD k 0=y at HC2 HN;have hx:=xorB x y;generalize x ^^^ y=z at hx HN;have hz:=z.toNat_lt;have ho:=i64_or n z.toNat hn (by omega);have HO:=Φ (or_lt48 hn (show z.toNat<281474976710656 by omega));generalize n|||z.toNat=m at ho HN HO;go_wp2_with fail;refine HC1.out.mono ?_;rintro e w1 ⟨rfl,rfl⟩;go_wp2_with fail;refine HC2.out.mono ?_;rintro e w1 ⟨rfl,rfl⟩;go_wp2_with fail
   go_round
   case rel=>exact⟨k+1,m,by omega,HO.out,rfl,by go_num,HN.out⟩
   case measure=>simp [intOf];omega
  ·have HK:Hid (((n:Int) == 0)=decide (a=b)):=Φ (by
    rw [← HE.out,show M=k from by omega]
    have:=HI.out
    rw [Bool.eq_iff_iff,← this]
    simp)
   by_cases h0:n=0
   ·subst h0;have hd:decide (a=b)=true:=by rw [← HK.out];rfl
    have HD:=Φ hd;clear hd;go_wp2_with fail;go_ret;exact⟨by rw [HD.out];rfl,rfl⟩
   ·have hd:decide (a=b)=false:=by rw [← HK.out];simp;omega
    have HD:=Φ hd;have hne:((n:Int) == 0)=false:=by simp;omega
    clear hd;go_wp2_with fail;go_ret;exact⟨by rw [HD.out];rfl,rfl⟩
end Hs
namespace Hs
open Go.RowKit
set_option maxHeartbeats 2000000
theorem u75:Tryz.prog.underlying 219=some (.array 16 111):=by kernel_rfl
theorem u72:Tryz.prog.underlying 216=some (.array 64 111):=by kernel_rfl
theorem u46:Tryz.prog.underlying 129=some (.array 64 5):=by kernel_rfl
theorem i75 (l:List UInt32)(h:l.length=16): (Tryz.prog.info? 219).map (·.size)=some (ws l).size:=by
 rw [ws_size,h];kernel_rfl
theorem i72 (l:List UInt32)(h:l.length=64): (Tryz.prog.info? 216).map (·.size)=some (ws l).size:=by
 rw [ws_size,h];kernel_rfl
theorem i46 (l:List UInt8)(h:l.length=64): (Tryz.prog.info? 129).map (·.size)=some (bs l).size:=by
 rw [bs_size,h];kernel_rfl
theorem ws_one (l:List UInt32): (ws l).all (·.oneCell')=true:=by
 unfold ws;rw [Array.all_eq_true_iff_forall_mem];intro x hx;simp at hx;obtain⟨a,_,rfl⟩:=hx;rfl
theorem bs_one (l:List UInt8): (bs l).all (·.oneCell')=true:=by
 unfold bs;rw [Array.all_eq_true_iff_forall_mem];intro x hx;simp at hx;obtain⟨a,_,rfl⟩:=hx;rfl
theorem first_ws:ws firstL=#[.int .u32 1779033703,.int .u32 3144134277,.int .u32 1013904242,.int .u32 2773480762,.int .u32 1359893119,.int .u32 2600822924,.int .u32 528734635,.int .u32 1541459225]:=by kernel_rfl
theorem first_any (w:World):
  Calls Tryz.prog 146 #[] w fun e w'=>e = .returned (.agg (ws firstL))∧Below w.heap.size w w':=by
 rw [first_ws];go_enter Tryz.func146,Tryz.ntmps146;go_wp2_with fail;exact bodyPost_ret (v:= .agg #[.int .u32 1779033703,.int .u32 3144134277,.int .u32 1013904242,.int .u32 2773480762,.int .u32 1359893119,.int .u32 2600822924,.int .u32 528734635,.int .u32 1541459225]) (by simp [results,Tryz.results146,go_sem]) rfl ⟨rfl,(Below.refl _ _).alloc (Nat.le_refl _) _⟩
theorem setRow_put {w:World}{b:Nat}{old cs:Array Value}{T:TypeId}{z:Nat×Nat}(h:w.heap[b]?=some (.cells old T z)): (w.setRow b cs).heap[b]?=some (.cells cs T z):=by
 simp [World.setRow,Array.getElem?_modify,h]
theorem setRow_below {B b:Nat}{a w:World}{cs:Array Value}(h:Below B a w)(hB:B≤b): Below B a (w.setRow b cs):=by
 refine h.trans ⟨rfl,rfl,rfl,by simp [World.setRow],fun k hk=>?_⟩;simp only [World.setRow,Array.getElem?_modify];rw [if_neg (by omega)]
theorem kL_length:kL.length=64:=by decide +kernel
set_option maxRecDepth 100000 in
theorem consts_any (w:World):
  Calls Tryz.prog 192 #[] w fun e w'=>e = .returned (.agg (ws kL))∧Below w.heap.size w w':=by
 have HI:=Lib.hid (i72 kL kL_length);go_enter Tryz.func192,Tryz.ntmps192;go_wp2_with (first
  |(refine wpList_build rfl 216 _ rfl (by kernel_rfl) ?_;generalize hB:(Tryz.prog.built 216 _).getD #[]=cs;obtain rfl:cs=ws kL:=(by rw [← hB];kernel_rfl);clear hB)
  |(refine wpList_store_row rfl 216 (.tmp 0) (.tmp 1) rfl w.heap.size (ws kL) rfl rfl 216 _ (Go.heap_alloc_new w _) HI.out (by rw [ws_size,kL_length];rfl) (ws_one _) ?_))
 refine bodyPost_ret (v:= .agg (ws kL)) (results_cell_row (p:=0) (ty:=216) rfl _ _ w.heap.size 216 (ws kL) (0,0) _ rfl (setRow_put (Go.heap_alloc_new w _)) u72 rfl HI.out) rfl ⟨rfl,setRow_below ((Below.refl _ _).alloc (Nat.le_refl _) _) (Nat.le_refl _)⟩
end Hs
namespace Hs
open Go.RowKit
open Go.Lib renaming hid→Φ
theorem nums_succ (b:List UInt8)(k:Nat): numsTo b (k+1)=nstep b (numsTo b k) k:=by
 simp [numsTo,List.range_succ]
theorem nstep_length (b:List UInt8)(l:List UInt32)(k:Nat): (nstep b l k).length=l.length:=by simp [nstep]
theorem nums_length (b:List UInt8)(k:Nat): (numsTo b k).length=16:=by
 induction k with
 |zero=>rfl
 |succ k ih=>rw [nums_succ,nstep_length,ih]
theorem zero16:#[Value.int .u32 0,.int .u32 0,.int .u32 0,.int .u32 0,.int .u32 0,.int .u32 0,.int .u32 0,.int .u32 0,.int .u32 0,.int .u32 0,.int .u32 0,.int .u32 0,.int .u32 0,.int .u32 0,.int .u32 0,.int .u32 0]=ws (numsTo [] 0):=by kernel_rfl
set_option maxHeartbeats 2000000 in
set_option maxRecDepth 100000 in
theorem numbers_any (b:List UInt8)(hb:b.length=64)(w:World):
  Calls Tryz.prog 194 #[.string ⟨b.toArray⟩] w fun e w'=>e = .returned (.agg (ws (numsL b)))∧Below w.heap.size w w':=by
 have HL:=Φ hb;have hs:=size_ba b;have hl:64≤b.length:=by omega
 clear hb;go_enter Tryz.func194,Tryz.ntmps194;go_wp2_with fail
 go_loopw [5] (fun i wr=>∃k:Nat,k≤64∧i = .int .i64 k∧wr.heap[w.heap.size+1]?=some (.cells (ws (numsTo b k)) 219 (0,0))∧(∃old:Array Value,wr.heap[w.heap.size]?=some (.cells old 219 (0,0))∧old.size=16)∧Below w.heap.size w wr) (fun i _=>64 - (intOf i).toNat)
 case atStart=>
  refine⟨0,by omega,rfl,?_,⟨_,(by rw [Lib.alloc_old _ _ _ (by simp)];exact Go.heap_alloc_new w _),by rfl⟩,((Below.refl _ _).alloc (Nat.le_refl _) _).alloc (by simp) _⟩
  ·rw [zero16,show numsTo b 0=numsTo [] 0 from rfl]
   have:=Go.heap_alloc_new (w.alloc (.cells (ws (numsTo [] 0)) 219)) (.cells (ws (numsTo [] 0)) 219)
   simpa using this
 case round=>
  obtain⟨k,hk,rfl,hB,⟨old,hO,ho⟩,hW⟩:=hrel;have HB:=Φ hB;have HO:=Φ hO;have HW:=Φ hW;have HZ:=Φ ho;clear hB hO hW ho
  by_cases hlt:k<64
  ·have hkl:k / 4<(numsTo b k).length:=by rw [nums_length];omega
   have x0:=(blk_cell HB.out (k / 4)).trans (ws_get _ _ hkl);have f0:=Lib.frozen_of_heap HB.out (k / 4);have hbk:k<b.length:=by omega
   have e1:(numsTo b k).getD (k / 4) 0=(numsTo b k)[k / 4]:=by simp [List.getD,hkl]
   have e2:b.getD k 0=b[k]:=by simp [List.getD,hbk]
   have HN:=Φ (nums_succ b k);unfold nstep at HN;rw [e1,e2] at HN;have hx:=sh8_or ((numsTo b k)[k / 4]) b[k];generalize (numsTo b k)[k / 4]=x at x0 hx HN;have HV:Hid (bits BinOp.or IntKind.u32 ((x.toNat:Int)*256 % 4294967296) ((((⟨b.toArray⟩:ByteArray)[k]'(by rw [hs];omega)).toNat:Int) % 4294967296)=((sh8 x b[k]).toNat:Int)):=Φ (by
    have hm:(((⟨b.toArray⟩:ByteArray)[k]'(by rw [hs];omega)).toNat:Int) % 4294967296=(b[k].toNat:Int):=by
     have h8:=b[k].toNat_lt
     show((b[k]).toNat:Int) % 4294967296=_
     omega
    rw [hm];exact hx)
   generalize sh8 x b[k]=y at HV HN;clear e1 e2 hkl hx;go_wp2_with fail
   go_region
   rw [HV.out];have HB2:=Φ (blk_put HB.out (k / 4) (.int .u32 (y.toNat:Int)));rw [ws_set,← HN.out] at HB2;have HO2:=Φ ((Below.heap_setCell wr ⟨w.heap.size+1,k / 4,none⟩ (.int .u32 (y.toNat:Int)) w.heap.size (by simp)).trans HO.out);have HW2:=Φ (HW.out.setCell (p:=⟨w.heap.size+1,k / 4,none⟩) (by simp) (.int .u32 (y.toNat:Int)));generalize wr.setCell ⟨w.heap.size+1,k / 4,none⟩ (.int .u32 (y.toNat:Int))=w2 at HB2 HO2 HW2;clear HB HO HW x0 f0;go_wp2_with fail
   go_roundw
   case rel=>exact⟨k+1,by omega,by go_num,HB2.out,⟨old,HO2.out,HZ.out⟩,HW2.out.drew⟩
   case measure=>simp [intOf];omega
  ·obtain rfl:k=64:=by omega
   have HI:=Φ (i75 (numsL b) (nums_length b 64));have HB':Hid (wr.heap[w.heap.size+1]?=some (.cells (ws (numsL b)) 219 (0,0))):=Φ HB.out;go_wp2_with (first
    |(refine wpList_load_row rfl 219 (.tmp 3) rfl (w.heap.size+1) rfl 219 (ws (numsL b)) (0,0) _ HB'.out u75 rfl HI.out ?_)
    |(refine wpList_store_row rfl 219 (.tmp 2) (.tmp 22) rfl w.heap.size (ws (numsL b)) rfl rfl 219 old HO.out HI.out (by rw [ws_size,numsL,nums_length];exact HZ.out) (ws_one _) ?_))
   refine bodyPost_ret (v:= .agg (ws (numsL b))) (results_cell_row (p:=2) (ty:=219) rfl _ _ w.heap.size 219 (ws (numsL b)) (0,0) _ rfl (setRow_put HO.out) u75 rfl HI.out) rfl ⟨rfl,setRow_below HW.out (Nat.le_refl _)⟩
def wl (l:List UInt32): List Value:=l.map fun x=>Value.int .u32 (x.toNat:Int)
theorem wl_ws (l:List UInt32): (wl l).toArray=ws l:=rfl
theorem wl_length (l:List UInt32): (wl l).length=l.length:=by simp [wl]
theorem wl_one (l:List UInt32): ∀v∈wl l,v.oneCell'=true:=by
 intro v hv;simp [wl] at hv;obtain⟨a,_,rfl⟩:=hv;rfl
theorem wl_splice (l m:List UInt32)(o:Nat): splice (wl l) o (wl m)=wl (splice l o m):=by
 simp [splice,wl]
theorem s35:(Tryz.prog.info? 111).map (·.size)=some 1:=by kernel_rfl
theorem alloc3 (w:World)(a b c:Obj): (((w.alloc a).alloc b).alloc c).heap[w.heap.size]?=some a∧(((w.alloc a).alloc b).alloc c).heap[w.heap.size+1]?=some b∧(((w.alloc a).alloc b).alloc c).heap[w.heap.size+1+1]?=some c∧Below w.heap.size w (((w.alloc a).alloc b).alloc c):=by
 refine⟨?_,?_,?_,(((Below.refl _ _).alloc (Nat.le_refl _) _).alloc (by simp) _).alloc (by simp;omega) _⟩
 ·rw [Lib.alloc_old _ _ _ (by simp;omega),Lib.alloc_old _ _ _ (by simp)];exact Go.heap_alloc_new w a
 ·rw [Lib.alloc_old _ _ _ (by simp)]
  have:=Go.heap_alloc_new (w.alloc a) b
  simpa using this
 ·have:=Go.heap_alloc_new ((w.alloc a).alloc b) c
  simpa using this
theorem at0 (b j:Nat): (⟨b,0,none⟩:Addr).add j=⟨b,j,none⟩:=by unfold Addr.add;split<;>simp_all
theorem spread_start (l:List UInt32)(hl:l.length=16): splice (List.replicate 64 0) 0 l=spreadTo l 16:=by
 simp [splice,spreadTo,hl]
theorem spread_succ (l:List UInt32)(k:Nat)(hk:16≤k): spreadTo l (k+1)=sstep (spreadTo l k) k:=by
 simp only [spreadTo];rw [show k+1 - 16=(k - 16)+1 from by omega,List.range'_concat,List.foldl_append];simp only [List.foldl_cons,List.foldl_nil];rw [show 16+1*(k - 16)=k from by omega]
theorem sstep_length (l:List UInt32)(k:Nat): (sstep l k).length=l.length:=by simp [sstep]
theorem spread_length (l:List UInt32)(hl:l.length=16)(j:Nat): (spreadTo l (16+j)).length=64:=by
 induction j with
 |zero=>simp [spreadTo,hl]
 |succ j ih=>rw [← Nat.add_assoc,spread_succ l _ (by omega),sstep_length,ih]
theorem spread_length' (l:List UInt32)(hl:l.length=16)(k:Nat)(hk:16≤k): (spreadTo l k).length=64:=by
 have:=spread_length l hl (k - 16)
 rwa [show 16+(k - 16)=k from by omega] at this
set_option maxHeartbeats 2000000 in
set_option maxRecDepth 100000 in
theorem spread_any (l:List UInt32)(hl:l.length=16)(w:World):
  Calls Tryz.prog 193 #[.agg (ws l)] w fun e w'=>e = .returned (.agg (ws (spreadL l)))∧Below w.heap.size w w':=by
 have HL:=Φ hl;clear hl;go_enter Tryz.func193,Tryz.ntmps193;go_wp2_with fail;generalize hw:World.alloc (World.alloc (World.alloc w _) _) _=w1;have HA:Hid (w1.heap[w.heap.size]?=some (.cells (ws l) 219 (0,0))):=Φ (by rw [← hw];exact(alloc3 w _ _ _).1);have HO:Hid (∃old:Array Value,w1.heap[w.heap.size+1]?=some (.cells old 216 (0,0))∧old.size=64):=Φ ⟨_,by rw [← hw];exact(alloc3 w _ _ _).2.1,by rfl⟩;have HK:Hid (w1.heap[w.heap.size+1+1]?=some (.cells (wl (List.replicate 64 0)).toArray 216 (0,0))):=Φ (by rw [← hw];exact((alloc3 w _ _ _).2.2.1).trans (by kernel_rfl));have HB:Hid (Below w.heap.size w w1):=Φ (by rw [← hw];exact(alloc3 w _ _ _).2.2.2);clear hw
 go_region_law (refine step_copy_splice rfl (.tmp 9) (.tmp 10) 69 69 rfl 111 Tryz.underlying69 s35 (some ⟨w.heap.size+1+1,0,none⟩) (some ⟨w.heap.size,0,none⟩) 64 64 16 16 (by simp [Act.eval,Act.put]) (by simp [Act.eval,Act.put]) (w.heap.size+1+1) 0 (wl (List.replicate 64 0)) 216 HK.out (wl l) (by rw [wl_length,HL.out];rfl) (fun _=>⟨rfl,_,rfl,fun j v hv=>by rw [at0];exact(blk_cell HA.out j).trans (by rw [← wl_ws];simpa using hv)⟩) (by rw [wl_length,wl_length,HL.out];simp) (wl_one _) (w.heap.size+1+1) w1.drew (Below.refl _ _) (Nat.le_refl _) ?_;intro w4 hg4 hb4)
 have HK4:=Φ hg4.out;rw [wl_splice,spread_start l HL.out,wl_ws] at HK4;have HO4:Hid (∃old:Array Value,w4.heap[w.heap.size+1]?=some (.cells old 216 (0,0))∧old.size=64):=Φ (by
  obtain⟨old,h1,h2⟩:=HO.out;exact⟨old,(hb4.block _ (by omega)).trans h1,h2⟩)
 have HB4:=Φ (HB.out.drew.trans (hb4.mono (by omega)));clear hg4 hb4 HA HO HK HB;go_wp2_with fail
 go_loopw [4] (fun i wr=>∃k:Nat,16≤k∧k≤64∧i = .int .i64 k∧wr.heap[w.heap.size+1+1]?=some (.cells (ws (spreadTo l k)) 216 (0,0))∧(∃old:Array Value,wr.heap[w.heap.size+1]?=some (.cells old 216 (0,0))∧old.size=64)∧Below w.heap.size w wr) (fun i _=>64 - (intOf i).toNat)
 case atStart=>exact⟨16,by omega,by omega,rfl,HK4.out,HO4.out,HB4.out⟩
 case round=>
  obtain⟨k,hk,hk2,rfl,hB,hO,hW⟩:=hrel;have HB:=Φ hB;have HO:=Φ hO;have HW:=Φ hW;clear hB hO hW HK4 HO4 HB4
  by_cases hlt:k<64
  ·have HN:=Φ (spread_succ l k hk);have hln:=spread_length' l HL.out k hk;have c16:=(blk_cell HB.out (k - 16)).trans (ws_get _ _ (by omega));have c15:=(blk_cell HB.out (k - 15)).trans (ws_get _ _ (by omega));have c7:=(blk_cell HB.out (k - 7)).trans (ws_get _ _ (by omega));have c2:=(blk_cell HB.out (k - 2)).trans (ws_get _ _ (by omega));have ck:=(blk_cell HB.out k).trans (ws_get _ _ (by omega));have fk:=Lib.frozen_of_heap HB.out k;unfold sstep at HN;have e16:(spreadTo l k).getD (k - 16) 0=(spreadTo l k)[k - 16]'(by omega):=by simp [List.getD,show k - 16<(spreadTo l k).length by omega]
   have e15:(spreadTo l k).getD (k - 15) 0=(spreadTo l k)[k - 15]'(by omega):=by simp [List.getD,show k - 15<(spreadTo l k).length by omega]
   have e7:(spreadTo l k).getD (k - 7) 0=(spreadTo l k)[k - 7]'(by omega):=by simp [List.getD,show k - 7<(spreadTo l k).length by omega]
   have e2:(spreadTo l k).getD (k - 2) 0=(spreadTo l k)[k - 2]'(by omega):=by simp [List.getD,show k - 2<(spreadTo l k).length by omega]
   rw [e16,e15,e7,e2] at HN;clear e16 e15 e7 e2;generalize (spreadTo l k)[k - 16]'(by omega)=a16 at c16 HN;generalize (spreadTo l k)[k - 15]'(by omega)=a15 at c15 HN;generalize (spreadTo l k)[k - 7]'(by omega)=a7 at c7 HN;generalize (spreadTo l k)[k - 2]'(by omega)=a2 at c2 HN;generalize (spreadTo l k)[k]'(by omega)=ak at ck;clear hln;have t16:((k:Int) - 16).toNat=k - 16:=by omega
   have t15:((k:Int) - 15).toNat=k - 15:=by omega
   have t7:((k:Int) - 7).toNat=k - 7:=by omega
   have t2:((k:Int) - 2).toNat=k - 2:=by omega
   have R7:=Φ (ror7 a15);have R18:=Φ (ror18 a15);have R17:=Φ (ror17 a2);have R19:=Φ (ror19 a2);have x1:=xorW (rorW a15 7) (rorW a15 18);have x2:=xorW (rorW a15 7 ^^^ rorW a15 18) (shrW a15 3);have x3:=xorW (rorW a2 17) (rorW a2 19);have x4:=xorW (rorW a2 17 ^^^ rorW a2 19) (shrW a2 10);have d1:(a15.toNat:Int) / 8=((shrW a15 3).toNat:Int):=shrW_div a15 3 8 (by decide);have d2:(a2.toNat:Int) / 1024=((shrW a2 10).toNat:Int):=shrW_div a2 10 1024 (by decide);have s1:((a16.toNat:Int)+((sig0 a15).toNat:Int)+(a7.toNat:Int)+((sig1 a2).toNat:Int)) % 4294967296=((a16+sig0 a15+a7+sig1 a2).toNat:Int):=by
    rw [UInt32.toNat_add,UInt32.toNat_add,UInt32.toNat_add];omega
   generalize a16+sig0 a15+a7+sig1 a2=y at s1 HN;unfold sig0 sig1 at s1;generalize rorW a15 7 ^^^ rorW a15 18 ^^^ shrW a15 3=q0 at x2 s1;generalize rorW a2 17 ^^^ rorW a2 19 ^^^ shrW a2 10=q1 at x4 s1;generalize rorW a15 7 ^^^ rorW a15 18=p0 at x1 x2;generalize rorW a2 17 ^^^ rorW a2 19=p1 at x3 x4;generalize rorW a15 7=r7 at x1 R7;generalize rorW a15 18=r18 at x1 R18;generalize rorW a2 17=r17 at x3 R17;generalize rorW a2 19=r19 at x3 R19;generalize shrW a15 3=h3 at d1 x2;generalize shrW a2 10=h10 at d2 x4;go_wp2_with fail
   go_region
   go_wp2_with fail;refine(R7.out _).mono ?_;rintro e w5 ⟨rfl,rfl⟩;go_wp2_with fail;refine(R18.out _).mono ?_;rintro e w5 ⟨rfl,rfl⟩;go_wp2_with fail;refine(R17.out _).mono ?_;rintro e w5 ⟨rfl,rfl⟩;go_wp2_with fail;refine(R19.out _).mono ?_;rintro e w5 ⟨rfl,rfl⟩;go_wp2_with fail
   go_region
   have HB2:=Φ (blk_put HB.out k (.int .u32 (y.toNat:Int)));rw [ws_set,← HN.out] at HB2;have HO2:Hid (∃old:Array Value,(wr.setCell ⟨w.heap.size+1+1,k,none⟩ (.int .u32 (y.toNat:Int))).heap[w.heap.size+1]?=some (.cells old 216 (0,0))∧old.size=64):=Φ (by
    obtain⟨old,h1,h2⟩:=HO.out;exact⟨old,(Below.heap_setCell wr ⟨w.heap.size+1+1,k,none⟩ (.int .u32 (y.toNat:Int)) (w.heap.size+1) (by simp)).trans h1,h2⟩)
   have HW2:=Φ (HW.out.setCell (p:=⟨w.heap.size+1+1,k,none⟩) (by simp;omega) (.int .u32 (y.toNat:Int)));clear HB HO HW c16 c15 c7 c2 ck fk;go_wp2_with fail
   go_roundw
   case rel=>exact⟨k+1,by omega,by omega,by go_num,HB2.out,HO2.out,HW2.out.drew.drew⟩
   case measure=>simp [intOf];omega
  ·obtain rfl:k=64:=by omega
   have hL:(spreadL l).length=64:=spread_length' l HL.out 64 (by omega);have HI:=Φ (i72 (spreadL l) hL);have HB':Hid (wr.heap[w.heap.size+1+1]?=some (.cells (ws (spreadL l)) 216 (0,0))):=Φ HB.out;obtain⟨old,ho1,ho2⟩:=HO.out;have HO1:=Φ ho1;have HO2:=Φ (show old.size=(ws (spreadL l)).size from by rw [ws_size,hL];exact ho2);clear hL ho1 ho2;go_wp2_with (first
    |(refine wpList_load_row rfl 216 (.tmp 3) rfl (w.heap.size+1+1) rfl 216 (ws (spreadL l)) (0,0) _ HB'.out u72 rfl HI.out ?_)
    |(refine wpList_store_row rfl 216 (.tmp 2) (.tmp 55) rfl (w.heap.size+1) (ws (spreadL l)) rfl rfl 216 old HO1.out HI.out HO2.out (ws_one _) ?_))
   refine bodyPost_ret (v:= .agg (ws (spreadL l))) (results_cell_row (p:=2) (ty:=216) rfl _ _ (w.heap.size+1) 216 (ws (spreadL l)) (0,0) _ rfl (setRow_put HO1.out) u72 rfl HI.out) rfl ⟨rfl,setRow_below HW.out (by omega)⟩
end Hs
namespace Hs
open Go.RowKit Go.Sort
section
variable {P:Program}
theorem exec_load_row {o:Oper}{a:Act}{w:World}(ty:TypeId)(x:Operand)(ho:o.op = .load ty x)
  (g:Nat) (hx:a.eval x = .pointer (some ⟨g,0,none⟩)) (t:TypeId) (cs:Array Value) (fr:Nat×Nat) (d:TypeDesc) (hg:w.heap[g]?=some (.cells cs t fr))
  (hu:P.underlying ty=some d) (hd:(match d with | .struct _ | .array _ _=>true | _=>false)=true) (hi:(P.info? ty).map (·.size)=some cs.size) :
  (execOp a.eval o).run P w = .ok (.value (.agg cs)) w:=by
 unfold execOp;simp only [ho,hx,Instr.loadAt,Instr.sureAddr,Sem.run_bind,Sem.run_pure,Result.andThen_ok,run_loadVar_row w g t ty cs fr d hg hu hd hi]
theorem wpStill_load_row {ops:Array Oper}{w:World}{Q:Act→Prop}{a:Act}{o:Oper}{rest:List Oper}(hgd:o.guard=none)(ty:TypeId)(x:Operand)(ho:o.op = .load ty x)
  (g:Nat) (hx:a.eval x = .pointer (some ⟨g,0,none⟩)) (t:TypeId) (cs:Array Value) (fr:Nat×Nat) (d:TypeDesc) (hg:w.heap[g]?=some (.cells cs t fr))
  (hu:P.underlying ty=some d) (hd:(match d with | .struct _ | .array _ _=>true | _=>false)=true) (hi:(P.info? ty).map (·.size)=some cs.size)
  (h:wpStill P ops w Q rest (a.put o.dst (.agg cs))):wpStill P ops w Q (o::rest) a:=
 wpStill_step fun K hK=>by
  rw [if_pos (by simp [Region.wanted,hgd])];unfold Oper.still;rw [exec_load_row ty x ho g hx t cs fr d hg hu hd hi,Oper.stillUpon_value];exact hK _ h
theorem wpQuiet_load_row {ops:Array Oper}{C:World→Prop}{Q:Act→Prop}{a:Act}{o:Oper}{rest:List Oper}(hgd:o.guard=none)(ty:TypeId)(x:Operand)(ho:o.op = .load ty x)
  (g:Nat) (hx:a.eval x = .pointer (some ⟨g,0,none⟩)) (t:TypeId) (cs:Array Value) (fr:Nat×Nat) (d:TypeDesc) (hg:∀w,C w→w.heap[g]?=some (.cells cs t fr))
  (hu:P.underlying ty=some d) (hd:(match d with | .struct _ | .array _ _=>true | _=>false)=true) (hi:(P.info? ty).map (·.size)=some cs.size)
  (h:wpQuiet P ops C Q rest (a.put o.dst (.agg cs))):wpQuiet P ops C Q (o::rest) a:=
 wpQuiet_step fun K hK=>by
  rw [if_pos (by simp [Region.wanted,hgd])];refine⟨.agg cs,fun w hw=>?_,hK _ h⟩;unfold Oper.quietAt;rw [exec_load_row ty x ho g hx t cs fr d (hg w hw) hu hd hi];exact⟨rfl,rfl⟩
theorem heap_regrown {w w':World}{b:Nat}{o:Obj}(h:w.heap[b]?=some o)(hw:∃p:Regrown,w'=grow (redrawn w p.d) p.os): w'.heap[b]?=some o:=by
 obtain⟨p,rfl⟩:=hw;exact((below_regrown w p.d p.os).block _ (Array.getElem?_eq_some_iff.1 h).1).trans h
end
theorem mixed:Tryz.prog.follows .mixedOrders=true:=by kernel_rfl
theorem thr_succ:∀(k:Nat) (h:List UInt32) (s:List UInt8),thrL (k+1) h s=nextL (thrL k h s) ((s.drop (64*k)).take 64)
 |0,h,s=>by simp [thrL]
 |k+1,h,s=>by
  rw [thrL,thr_succ k,thrL,List.drop_drop,show 64+64*k=64*(k+1) from by omega]
theorem thr_append:∀(k m:Nat) (h:List UInt32) (s t:List UInt8),s.length=64*k→thrL m (thrL k h s) t=thrL (k+m) h (s++t)
 |0,m,h,s,t,hs=>by
  obtain rfl:s=[]:=List.eq_nil_of_length_eq_zero (by omega);simp [thrL]
 |k+1,m,h,s,t,hs=>by
  rw [thrL,thr_append k m _ _ _ (by rw [List.length_drop];omega),show k+1+m=(k+m)+1 from by omega,thrL,List.take_append_of_le_length (by omega),List.drop_append_of_le_length (by omega)]
theorem ext_ba (l:List UInt8)(a n:Nat): (⟨l.toArray⟩:ByteArray).extract a (a+n)=⟨((l.drop a).take n).toArray⟩:=by
 apply ByteArray.ext
 rw [ByteArray.data_extract];simp [List.extract_eq_take_drop]
end Hs
namespace Hs
def val:List Nat→Nat
 |[]=>0
 |x::l=>x+65536*val l
def Dig (l:List Nat): Prop:=∀x,x∈l→x<65536
theorem val_lt:∀ {l:List Nat},Dig l→val l<65536 ^ l.length
 |[],_=>by simp [val]
 |x::l,h=>by
  have h1:=h x (by simp);have h2:=val_lt (l:=l) fun y hy=>h y (by simp [hy])
  simp only [val,List.length_cons,Nat.pow_succ];omega
theorem val_set:∀(l:List Nat) (j x:Nat) (h:j<l.length),val (l.set j x)+l[j]*65536 ^ j=val l+x*65536 ^ j
 |y::l,0,x,_=>by simp [val];omega
 |y::l,j+1,x,h=>by
  have ih:=val_set l j x (by simpa using h);simp only [List.set_cons_succ,val,List.getElem_cons_succ,Nat.pow_succ];have e1:l[j]'(by simpa using h)*(65536 ^ j*65536)=65536*(l[j]'(by simpa using h)*65536 ^ j):=by rw [Nat.mul_comm (65536 ^ j),Nat.mul_left_comm]
  have e2:x*(65536 ^ j*65536)=65536*(x*65536 ^ j):=by rw [Nat.mul_comm (65536 ^ j),Nat.mul_left_comm]
  rw [e1,e2];omega
theorem val_take_succ:∀(l:List Nat) (j:Nat) (h:j<l.length),val (l.take (j+1))=val (l.take j)+l[j]*65536 ^ j
 |y::l,0,_=>by simp [val]
 |y::l,j+1,h=>by
  have ih:=val_take_succ l j (by simpa using h);simp only [List.take_succ_cons,val,List.getElem_cons_succ,Nat.pow_succ] at ih ⊢;have e1:l[j]'(by simpa using h)*(65536 ^ j*65536)=65536*(l[j]'(by simpa using h)*65536 ^ j):=by rw [Nat.mul_comm (65536 ^ j),Nat.mul_left_comm]
  rw [ih,e1];omega
theorem val_zero (n:Nat): val (List.replicate n 0)=0:=by
 induction n with
 |zero=>rfl
 |succ n ih=>simp [List.replicate_succ,val,ih]
theorem dig_set {l:List Nat}(h:Dig l)(j x:Nat)(hx:x<65536): Dig (l.set j x):=by
 intro y hy;rcases List.mem_or_eq_of_mem_set hy with h1 | h1
 ·exact h y h1
 ·rw [h1];exact hx
theorem dig_get {l:List Nat}(h:Dig l)(j:Nat)(hj:j<l.length): l[j]<65536:=h _ (List.getElem_mem hj)
structure Inn (S ai:Nat)(b out:List Nat)(i k c:Nat): Prop where
 dig:Dig out
 carry:c<65536
 sum:val out+c*65536 ^ (i+k)=S+ai*val (b.take k)*65536 ^ i
 rest:∀j,(h:j<out.length)→i+b.length≤j→out[j]=0
theorem inn_step {S ai:Nat}{b out:List Nat}{i k c:Nat}(x:Inn S ai b out i k c)(hai:ai<65536)(hb:Dig b)(hk:k<b.length)(ho:i+b.length<out.length):
  Inn S ai b (out.set (i+k) ((c+(out[i+k]'(by omega)+ai*b[k])) % 65536)) i (k+1) ((c+(out[i+k]'(by omega)+ai*b[k])) / 65536):=by
 have hbk:=dig_get hb k hk;have hok:=dig_get x.dig (i+k) (by omega);have hm:ai*b[k]≤65535*65535:=Nat.mul_le_mul (by omega) (by omega);have hcr:=x.carry;have hvs:=val_set out (i+k) ((c+(out[i+k]'(by omega)+ai*b[k])) % 65536) (by omega);have hsum:=x.sum;have hts:=val_take_succ b k hk;generalize hT:c+(out[i+k]'(by omega)+ai*b[k])=T at hvs ⊢;refine⟨dig_set x.dig _ _ (Nat.mod_lt _ (by decide)),by omega,?_,fun j hj hle=>?_⟩
 ·have e0:65536*(T / 65536)+T % 65536=T:=Nat.div_add_mod T 65536;have e1:T / 65536*65536 ^ (i+(k+1))+T % 65536*65536 ^ (i+k)=T*65536 ^ (i+k):=by
   rw [← Nat.add_assoc,Nat.pow_succ,Nat.mul_comm (65536 ^ (i+k)) 65536,← Nat.mul_assoc,← Nat.add_mul,Nat.mul_comm (T / 65536),e0]
  have e2:T*65536 ^ (i+k)=c*65536 ^ (i+k)+(out[i+k]'(by omega)*65536 ^ (i+k)+ai*b[k]*65536 ^ (i+k)):=by
   rw [← hT,Nat.add_mul,Nat.add_mul]
  have e3:ai*val (b.take (k+1))*65536 ^ i=ai*val (b.take k)*65536 ^ i+ai*b[k]*65536 ^ (i+k):=by
   rw [hts,Nat.mul_add,Nat.add_mul,Nat.pow_add,Nat.mul_comm (65536 ^ i) (65536 ^ k)];simp only [Nat.mul_assoc]
  rw [e3];omega
 ·have:(out.set (i+k) (T % 65536))[j]'hj=out[j]'(by simpa using hj):=List.getElem_set_ne (by omega) _
  rw [this];exact x.rest j _ hle
structure Out (a b out:List Nat)(i:Nat): Prop where
 dig:Dig out
 len:out.length=a.length+b.length
 sum:val out=val (a.take i)*val b
 rest:∀j,(h:j<out.length)→i+b.length≤j→out[j]=0
theorem out_start (a b:List Nat): Out a b (List.replicate (a.length+b.length) 0) 0:=
 ⟨fun x hx=>by have:=List.eq_of_mem_replicate hx;omega,by simp,by rw [val_zero];simp [val],fun j h _=>by simp⟩
theorem out_in {a b out:List Nat}{i:Nat}(x:Out a b out i)(hi:i<a.length): Inn (val out) a[i] b out i 0 0:=
 ⟨x.dig,by omega,by simp [val],fun j h hle=>x.rest j h hle⟩
theorem in_out {a b out out':List Nat}{i c:Nat}(x:Out a b out i)(hi:i<a.length)(y:Inn (val out) a[i] b out' i b.length c)(hl:out'.length=out.length):
  Out a b (out'.set (i+b.length) c) (i+1):=by
 have hlt:i+b.length<out'.length:=by rw [hl,x.len];omega
 have h0:=y.rest (i+b.length) hlt (Nat.le_refl _);have hvs:=val_set out' (i+b.length) c hlt;rw [h0,Nat.zero_mul,Nat.add_zero] at hvs;refine⟨dig_set y.dig _ _ y.carry,by rw [List.length_set,hl,x.len],?_,fun j h hle=>?_⟩
 ·rw [hvs,y.sum,x.sum,val_take_succ a i hi,Nat.add_mul,List.take_length]
  congr 1
  rw [Nat.mul_assoc,Nat.mul_assoc,Nat.mul_comm (val b)]
 ·have:(out'.set (i+b.length) c)[j]'h=out'[j]'(by simpa using h):=List.getElem_set_ne (by omega) _
  rw [this];exact y.rest j _ (by omega)
theorem out_end {a b out:List Nat}(x:Out a b out a.length): val out=val a*val b:=by
 have:=x.sum
 rwa [List.take_length] at this
def spot (p m j:Nat): Nat:=if j=m then p else 0
def Top (a:List Nat)(p m j:Nat): Prop:=∀i,(h:i<a.length)→j≤i→a[i]=spot p m i
def spots (p m n:Nat): List Nat:=(List.range n).map (spot p m)
theorem val_snoc:∀(l:List Nat) (x:Nat),val (l++[x])=val l+x*65536 ^ l.length
 |[],x=>by simp [val]
 |y::l,x=>by
  simp only [List.cons_append,val,val_snoc l x,List.length_cons,Nat.pow_succ];have e2:x*(65536 ^ l.length*65536)=65536*(x*65536 ^ l.length):=by rw [Nat.mul_comm (65536 ^ l.length),Nat.mul_left_comm]
  rw [e2];omega
theorem val_spots (p m:Nat): ∀n,val (spots p m n)=if m<n then p*65536 ^ m else 0
 |0=>by simp [spots,val]
 |n+1=>by
  have e:spots p m (n+1)=spots p m n++[spot p m n]:=by simp [spots,List.range_succ]
  rw [e,val_snoc,val_spots p m n];have hl:(spots p m n).length=n:=by simp [spots]
  rw [hl];unfold spot
  by_cases h1:n=m
  ·subst h1;rw [if_neg (by omega),if_pos rfl,if_pos (by omega)];omega
  ·rw [if_neg h1]
   by_cases h2:m<n
   ·rw [if_pos h2,if_pos (by omega)];omega
   ·rw [if_neg h2,if_neg (by omega)];omega
theorem spots_get (p m n j:Nat)(h:j<(spots p m n).length): (spots p m n)[j]=spot p m j:=by simp [spots]
theorem val_split:∀(l:List Nat) (j:Nat),val l=val (l.take j)+65536 ^ j*val (l.drop j)
 |l,0=>by simp [val]
 |[],j+1=>by simp [val]
 |y::l,j+1=>by
  simp only [List.take_succ_cons,List.drop_succ_cons,val,Nat.pow_succ];rw [val_split l j,Nat.mul_add,Nat.mul_comm (65536 ^ j) 65536,Nat.mul_assoc];omega
theorem top_drop {a:List Nat}{p m j:Nat}(h:Top a p m j): a.drop j=(spots p m a.length).drop j:=by
 apply List.ext_getElem (by simp [spots])
 intro i h1 h2;rw [List.getElem_drop,List.getElem_drop,spots_get];exact h _ _ (by omega)
theorem dig_take {l:List Nat}(h:Dig l)(j:Nat): Dig (l.take j):=fun x hx=>h x (List.mem_of_mem_take hx)
theorem top_end {a:List Nat}{p m:Nat}(h:Top a p m 0)(hm:m<a.length): val a=p*65536 ^ m:=by
 have:=top_drop h
 simp only [List.drop_zero] at this;rw [this,val_spots,if_pos hm]
theorem top_found {a:List Nat}{p m j:Nat}(ha:Dig a)(hp:p<65536)(h:Top a p m (j+1))(hj:j<a.length)(hm:m<a.length)(hne:a[j]≠spot p m j): (spot p m j<a[j])↔p*65536 ^ m<val a:=by
 have e1:=val_split a j;have e2:=val_split (spots p m a.length) j;rw [val_spots,if_pos hm] at e2;have hjs:j<(spots p m a.length).length:=by simp [spots,hj]
 rw [List.drop_eq_getElem_cons hj] at e1;rw [List.drop_eq_getElem_cons hjs,spots_get,← top_drop h] at e2;simp only [val] at e1 e2;have hs:Dig (spots p m a.length):=fun x hx=>by
  obtain⟨i,_,rfl⟩:=List.mem_map.1 hx;unfold spot;split<;>omega
 have l1:=val_lt (dig_take ha j);have l2:=val_lt (dig_take hs j);rw [List.length_take,Nat.min_eq_left (by omega)] at l1 l2;generalize val (a.take j)=x at e1 l1;generalize val ((spots p m a.length).take j)=y at e2 l2;generalize val (a.drop (j+1))=z at e1 e2;generalize spot p m j=q at *;generalize a[j]=r at *;generalize 65536 ^ j=P at *;rw [e1,e2];have f1:P*(r+65536*z)=P*r+P*(65536*z):=Nat.mul_add _ _ _;have f2:P*(q+65536*z)=P*q+P*(65536*z):=Nat.mul_add _ _ _;rw [f1,f2];constructor
 ·intro hlt
  have:P*(q+1)≤P*r:=Nat.mul_le_mul_left _ hlt
  rw [Nat.mul_add] at this;omega
 ·intro hlt;rcases Nat.lt_or_ge q r with h | h
  ·exact h
  ·have:r+1≤q:=by omega
   have:P*(r+1)≤P*q:=Nat.mul_le_mul_left _ this
   rw [Nat.mul_add] at this;omega
def rootN (p n:Nat): Nat→Nat→Nat
 |0,x=>x
 |k+1,x=>rootN p n k (if p*65536 ^ (2*n)<(x+2 ^ k) ^ n then x else x+2 ^ k)
def prStep (l:List Nat)(p:Nat): List Nat:=if l.all fun q=>decide (p % q≠0) then l++[p] else l
def prL (p:Nat): List Nat:=(List.range' 2 (p - 2)).foldl prStep []
theorem keys_ok:(prL 312).map (fun p=>UInt32.ofNat (rootN p 3 41 0 % 4294967296))=kL:=by decide +kernel
theorem first_ok:(prL 20).map (fun p=>UInt32.ofNat (rootN p 2 41 0 % 4294967296))=firstL:=by decide +kernel
end Hs
namespace Hs
open Go.RowKit Go.Sort
open Go.Lib renaming hid→Φ
def us (l:List Nat): Array Value:=(l.map fun(x:Nat)=>Value.int .u64 (x:Int)).toArray
theorem us_get (l:List Nat)(i:Nat)(h:i<l.length): (us l)[i]?=some (.int .u64 (l[i]:Int)):=by simp [us,h]
theorem us_set (l:List Nat)(o x:Nat): (us l).setIfInBounds o (.int .u64 (x:Int))=us (l.set o x):=by
 simp [us,List.map_set]
theorem info61:(Tryz.prog.info? 22).map (fun i=>(i.zero,i.size,i.bytes))=some (some (.int .u64 0),1,8):=by kernel_rfl
theorem made_us (n:Nat): madeCells (Value.int .u64 0).cells (n*1)=us (List.replicate n 0):=by
 apply Array.ext
 ·simp [us,madeCells]
 ·intro i h1 h2;simp [us,madeCells,Value.cells,Nat.mod_one]
theorem make_u64 (w:World)(n:Nat)(hn:n≤100000): (Instr.makeSlice 178 (.int .i64 (n:Int)) (.int .i64 (n:Int))).run Tryz.prog w = .ok (.slice (some ⟨w.heap.size,0,none⟩) n n) (w.alloc (.cells (us (List.replicate n 0)) 22)):=by
 obtain⟨i0,hi,hz0,hz1,hz2⟩:=info_parts info61
 have:=run_make (P:=Tryz.prog) w 178 22 i0 (.int .u64 0) Tryz.underlying178 hi hz0 .i64 .i64 n n (by omega) (Int.le_refl _) (by rw [hz2];omega) (by omega)
 rw [hz1] at this;simp only [Int.toNat_natCast] at this;rw [this,made_us]
theorem and16 (T:Nat)(hT:T<18446744073709551616): bits .and .u64 (T:Int) 65535=((T % 65536:Nat):Int):=by
 have:=u64_and_nat T 65535 hT (by omega)
 rw [show((65535:Nat):Int)=65535 from rfl] at this;rw [this,show(65535:Nat)=2 ^ 16 - 1 from rfl,Nat.and_two_pow_sub_one_eq_mod]
def TiO (w:World)(a b:List Nat)(i:Value)(wr:World): Prop:=∃(n:Nat) (out:List Nat),n≤a.length∧i = .int .i64 n∧wr.heap[w.heap.size]?=some (.cells (us out) 22 (0,0))∧Out a b out n∧Below w.heap.size w wr
def TiI (w:World)(S ai:Nat)(b:List Nat)(n L:Nat)(u i:Value)(wr:World): Prop:=∃(k c:Nat) (out:List Nat),k≤b.length∧i = .int .i64 k∧u = .int .u64 c∧wr.heap[w.heap.size]?=some (.cells (us out) 22 (0,0))∧Inn S ai b out n k c∧out.length=L∧Below w.heap.size w wr
set_option maxHeartbeats 4000000 in
set_option maxRecDepth 100000 in
theorem times_any (ga gb:Nat)(a b:List Nat)(ha:Dig a)(hb:Dig b)(la:a.length≤1000)(lb:b.length≤1000)(ca cb:Nat)(Ta Tb:TypeId)(w:World)(wa:w.heap[ga]?=some (.cells (us a) Ta (0,0)))(wb:w.heap[gb]?=some (.cells (us b) Tb (0,0))):
  Calls Tryz.prog 180 #[.slice (some ⟨ga,0,none⟩) a.length ca,.slice (some ⟨gb,0,none⟩) b.length cb] w fun e w'=>
   (∃g out,e = .returned (.slice (some ⟨g,0,none⟩) out.length out.length)∧w'.heap[g]?=some (.cells (us out) 22 (0,0))∧Dig out∧out.length=a.length+b.length∧val out=val a*val b)∧Below w.heap.size w w':=by
 have HDA:=Φ ha;have HDB:=Φ hb;have HWA:=Φ wa;have HWB:=Φ wb;have la1:(a.length:Int)≤1000:=by omega
 have lb1:(b.length:Int)≤1000:=by omega
 clear ha hb wa wb;go_enter Tryz.func180,Tryz.ntmps180;go_wp2_with fail;rw [show(a.length:Int)+(b.length:Int)=((a.length+b.length:Nat):Int) from by omega,make_u64 w (a.length+b.length) (by omega)];simp only [Result.andThen];rw [Oper.upon_value];have HN:Hid ((w.alloc (.cells (us (List.replicate (a.length+b.length) 0)) 22)).heap[w.heap.size]?=some (.cells (us (List.replicate (a.length+b.length) 0)) 22 (0,0))):=Φ (Go.heap_alloc_new w _);have HO:=Φ (out_start a b);have HB0:Hid (Below w.heap.size w (w.alloc (.cells (us (List.replicate (a.length+b.length) 0)) 22))):=Φ ((Below.refl _ _).alloc (Nat.le_refl _) _);generalize w.alloc (.cells (us (List.replicate (a.length+b.length) 0)) 22)=w1 at HN HB0 ⊢;generalize List.replicate (a.length+b.length) 0=out0 at HN HO;have hge:(((a.length+b.length:Nat):Int))=(a.length:Int)+(b.length:Int):=by omega
 go_wp2_with fail
 go_loopw [6] (fun i wr=>TiO w a b i wr) (fun i _=>a.length - (intOf i).toNat)
 case atStart=>exact⟨0,out0,by omega,rfl,HN.out,HO.out,HB0.out⟩
 case round=>
  obtain⟨n,out,hn,rfl,hw,ho,hb⟩:=hrel;have HN1:=Φ hw;have HO1:=Φ ho;have HB1:=Φ hb;clear hw ho hb HN HO HB0
  by_cases hlt:n<a.length
  ·have HI0:=Φ (out_in HO1.out hlt);have HAD:=Φ (dig_get HDA.out n hlt);have HOL:=Φ HO1.out.len;generalize hai:a[n]=ai at HI0 HAD;have HAI:=Φ hai;clear hai;go_wp2_with fail
   go_loopw [7,8] (fun u i wr=>TiI w (val out) ai b n out.length u i wr) (fun _ i _=>b.length - (intOf i).toNat)
   case atStart=>exact⟨0,0,out,by omega,rfl,rfl,HN1.out,HI0.out,rfl,HB1.out⟩
   case round=>
    obtain⟨k,c,o2,hk,rfl,rfl,hw,hi,hl,hb⟩:=hrel;have HN2:=Φ hw;have HI2:=Φ hi;have HL2:=Φ hl;have HB2:=Φ hb;clear hw hi hl hb HN1 HI0 HB1
    by_cases hkl:k<b.length
    ·have hnk:n+k<o2.length:=by have:=HL2.out;have:=HOL.out;omega
     have HT:=Φ (inn_step HI2.out HAD.out HDB.out hkl (by have:=HL2.out;have:=HOL.out;omega));have c0:=(blk_cell HN2.out (n+k)).trans (us_get o2 (n+k) hnk);have c1:=(blk_cell ((HB2.out.block ga (blk_lt HWA.out)).trans HWA.out) n).trans (us_get a n hlt);have c2:=(blk_cell ((HB2.out.block gb (blk_lt HWB.out)).trans HWB.out) k).trans (us_get b k hkl);have f0:=Lib.frozen_of_heap HN2.out (n+k);have hok:=dig_get HI2.out.dig (n+k) hnk;have hbk:=dig_get HDB.out k hkl;have hcr:=HI2.out.carry;have ha0:=HAD.out;rw [HAI.out] at c1;have hm0:ai*b[k]≤65535*65535:=Nat.mul_le_mul (by omega) (by omega);generalize b[k]=bk at c2 hbk hm0 HT;generalize o2[n+k]=ok at c0 hok HT;have hmc:((ai*bk:Nat):Int)=(ai:Int)*(bk:Int):=by simp
     obtain⟨M,hM⟩:∃M:Nat,M=ai*bk:=⟨_,rfl⟩;rw [← hM] at hm0 hmc HT;have e1:(ai:Int)*(bk:Int)=(M:Int):=hmc.symm;have e2:IntKind.u64.wrap (M:Int)=(M:Int):=IntWalk.u64_in _ (by omega);obtain⟨T,hT⟩:∃T:Nat,T=c+(ok+M):=⟨_,rfl⟩;rw [← hT] at HT;have e3:IntKind.u64.wrap ((ok:Int)+(M:Int))=(ok:Int)+(M:Int):=IntWalk.u64_in _ (by omega);have e4:IntKind.u64.wrap ((c:Int)+((ok:Int)+(M:Int)))=(T:Int):=by rw [IntWalk.u64_in _ (by omega)];omega
     have e5:(c:Int)+((ok:Int)+(M:Int))=(T:Int):=by omega
     have e6:=and16 T (by omega);have e7:(T:Int) / 65536=((T / 65536:Nat):Int):=by simp
     generalize T % 65536=r at e6 HT;generalize T / 65536=q at e7 HT;have e8:IntKind.i64.wrap ((n:Int)+(k:Int))=(n:Int)+(k:Int):=IntWalk.i64_in _ (by omega);have e9:((n:Int)+(k:Int)).toNat=n+k:=by omega
     have j1:0≤(n:Int)+(k:Int):=by omega
     have j2:(n:Int)+(k:Int)<(a.length:Int)+(b.length:Int):=by omega
     clear hmc hM hT;go_wp2_with fail
     go_quiet (fail);have HN3:Hid ((wr.drewN nq).heap[w.heap.size]?=some (.cells (us o2) 22 (0,0))):=Φ HN2.out;have HB3:Hid (Below w.heap.size w (wr.drewN nq)):=Φ ⟨HB2.out.os,HB2.out.tape,HB2.out.output,HB2.out.size,HB2.out.block⟩;clear c0 c1 c2 f0 HN2 HB2 e1 e2 e3 e4 e5;generalize wr.drewN nq=w5 at HN3 HB3 ⊢;have c0:=(blk_cell HN3.out (n+k)).trans (us_get o2 (n+k) hnk);have f0:=Lib.frozen_of_heap HN3.out (n+k);go_wp2_with fail;have HN4:=Φ (blk_put HN3.out (n+k) (.int .u64 (r:Int)));rw [us_set] at HN4;have HB4:=Φ (HB3.out.setCell (p:=⟨w.heap.size,n+k,none⟩) (Nat.le_refl _) (.int .u64 (r:Int)))
     go_roundw
     case rel=>exact⟨k+1,q,o2.set (n+k) r,by omega,by go_num,rfl,HN4.out,HT.out,by rw [List.length_set];exact HL2.out,HB4.out⟩
     case measure=>simp [intOf];omega
    ·obtain rfl:k=b.length:=by omega
     have HF:=Φ (in_out HO1.out hlt (by rw [HAI.out];exact HI2.out) HL2.out);have hnb:n+b.length<o2.length:=by have:=HL2.out;have:=HOL.out;omega
     have c0:=(blk_cell HN2.out (n+b.length)).trans (us_get o2 (n+b.length) hnb);have f0:=Lib.frozen_of_heap HN2.out (n+b.length);have e8:IntKind.i64.wrap ((n:Int)+(b.length:Int))=(n:Int)+(b.length:Int):=IntWalk.i64_in _ (by omega);have e9:((n:Int)+(b.length:Int)).toNat=n+b.length:=by omega
     have q1:0≤(n:Int)+(b.length:Int):=by omega
     have q2:(n:Int)+(b.length:Int)<(a.length:Int)+(b.length:Int):=by omega
     go_wp2_with fail;have HN4:=Φ (blk_put HN2.out (n+b.length) (.int .u64 (c:Int)));rw [us_set] at HN4;have HB4:=Φ (HB2.out.setCell (p:=⟨w.heap.size,n+b.length,none⟩) (Nat.le_refl _) (.int .u64 (c:Int)))
     go_roundw
     case rel=>exact⟨n+1,o2.set (n+b.length) c,by omega,by go_num,HN4.out,HF.out,HB4.out⟩
     case measure=>simp [intOf];omega
  ·obtain rfl:n=a.length:=by omega
   have HE:=Φ (out_end HO1.out);have HOL:=Φ HO1.out.len;go_wp2_with fail;go_ret;exact⟨⟨w.heap.size,out,by rw [HOL.out];rfl,HN1.out,HO1.out.dig,HOL.out,HE.out⟩,HB1.out⟩
def AbR (a:List Nat)(p m:Nat)(i:Value): Prop:=∃z:Int,i = .int .i64 z∧ -1≤z∧z<a.length∧Top a p m (z+1).toNat
set_option maxHeartbeats 4000000 in
set_option maxRecDepth 100000 in
theorem above_any (g:Nat)(a:List Nat)(ha:Dig a)(la:a.length≤1000)(p n:Nat)(hp:p<65536)(hn:2*n<a.length)(ca:Nat)(Ta:TypeId)(w:World)(wa:w.heap[g]?=some (.cells (us a) Ta (0,0))):
  Calls Tryz.prog 181 #[.slice (some ⟨g,0,none⟩) a.length ca,.int .u64 p,.int .i64 n] w fun e w'=>e = .returned (.bool (decide (p*65536 ^ (2*n)<val a)))∧w=w':=by
 have HDA:=Φ ha;have HWA:=Φ wa;have HP:=Φ hp;have HN:=Φ hn;have HT0:Hid (Top a p (2*n) a.length):=Φ fun i h hle=>by omega
 have la1:(a.length:Int)≤1000:=by omega
 have n1:(n:Int)≤1000:=by omega
 have l0:(1:Int)≤a.length:=by omega
 clear ha wa hp hn;go_enter Tryz.func181,Tryz.ntmps181;go_wp2_with fail
 go_loop [7] (fun i=>AbR a p (2*n) i) (fun i=>(intOf i+1).toNat)
 case atStart=>exact⟨(a.length:Int) - 1,rfl,by omega,by omega,by rw [show((a.length:Int) - 1+1).toNat=a.length from by omega];exact HT0.out⟩
 case round=>
  obtain⟨z,rfl,hz1,hz2,ht⟩:=hrel;have HT:=Φ ht;clear ht HT0
  by_cases hz:0≤z
  ·obtain⟨m,rfl⟩:∃m:Nat,z=m:=⟨z.toNat,by omega⟩;have hm:m<a.length:=by omega
   have HT1:Hid (Top a p (2*n) (m+1)):=Φ (by have:=HT.out;rwa [show((m:Int)+1).toNat=m+1 from by omega] at this);have cm:=(blk_cell HWA.out m).trans (us_get a m hm);have HF:=Φ (fun hne=>top_found (j:=m) HDA.out HP.out HT1.out hm HN.out hne);have HTS:Hid (a[m]=spot p (2*n) m→Top a p (2*n) m):=Φ fun he i h hle=>by
    by_cases e:i=m
    ·subst e;exact he
    ·exact HT1.out i h (by omega)
   generalize a[m]=x at cm HF HTS
   by_cases hmn:m=2*n
   ·have hsp:spot p (2*n) m=p:=by unfold spot;rw [if_pos hmn]
    rw [hsp] at HF HTS;have hb:((m:Int) == 2*(n:Int))=true:=by simp;omega
    have HM:=Φ hmn;clear hsp hmn HT
    by_cases hx:x=p
    ·have HX:=Φ (HTS.out hx);have hxb:((x:Int) != (p:Int))=false:=by simp [hx]
     clear HTS HF;subst hx;go_wp2_with fail
     go_round
     case rel=>exact⟨(m:Int) - 1,rfl,by omega,by omega,by rw [show((m:Int) - 1+1).toNat=m from by omega];exact HX.out⟩
     case measure=>(simp [intOf];try omega)
    ·have hxb:((x:Int) != (p:Int))=true:=by simp;omega
     have HR:Hid (decide (p*65536 ^ (2*n)<val a)=decide (p<x)):=Φ (decide_eq_decide.2 (HF.out hx).symm);have HX:=Φ hx;clear HTS HF hx;go_wp2_with fail;go_ret;exact⟨by rw [HR.out];rfl,rfl⟩
   ·have hsp:spot p (2*n) m=0:=by unfold spot;rw [if_neg hmn]
    rw [hsp] at HF HTS;have hb:((m:Int) == 2*(n:Int))=false:=by simp;omega
    have hb2:¬(m:Int)=2*(n:Int):=by omega
    clear hsp hmn HT
    by_cases hx:x=0
    ·have HX:=Φ (HTS.out hx);clear HTS HF;subst hx;go_wp2_with fail
     go_round
     case rel=>exact⟨(m:Int) - 1,rfl,by omega,by omega,by rw [show((m:Int) - 1+1).toNat=m from by omega];exact HX.out⟩
     case measure=>(simp [intOf];try omega)
    ·have hxb:((x:Int) != 0)=true:=by simp;omega
     have hx0:0<x:=by omega
     have hx1:decide ((0:Int)<(x:Int))=true:=by simp;omega
     have HR:Hid (decide (p*65536 ^ (2*n)<val a)=true):=Φ (decide_eq_true ((HF.out hx).1 hx0));clear HTS HF hx;go_wp2_with fail;go_ret;exact⟨by rw [HR.out];rfl,rfl⟩
  ·obtain rfl:z = -1:=by omega
   have HR:Hid (decide (p*65536 ^ (2*n)<val a)=false):=Φ (by
    have:=top_end (show Top a p (2*n) 0 from HT.out) HN.out
    rw [this];simp)
   go_wp2_with fail;go_ret;exact⟨by rw [HR.out];rfl,rfl⟩
end Hs
namespace Hs
open Go.RowKit Go.Sort
section
variable {P:Program} {ops:Array Oper} {md:Region.Mode} {C:World→Prop}
def headQ (P:Program)(md:Region.Mode)(ops:Array Oper)(C:World→Prop)(n:Nat)(L:Array Bool→Act→Prop): Nat→Array Bool→Act→Prop
 |0,ls,a=>L ls a
 |f+1,ls,a=>Region.ready md ops ls≠[]∧∀i,i∈Region.ready md ops ls→i<n∧qOp P ops C i (headQ P md ops C n L f (ls.setIfInBounds i true)) a
theorem any_of_headQ {n g:Nat}{L:Array Bool→Act→Prop}{Q:Exit→Act→World→Prop}(hL:∀ls a w,C w→L ls a→wpAny P md ops Q g ls a w)(f:Nat):
  ∀(ls:Array Bool) (a:Act) (w:World),C w→headQ P md ops C n L f ls a→wpAny P md ops Q (f+g) ls a w:=by
 induction f with
 |zero=>intro ls a w hw h;rw [Nat.zero_add];exact hL _ _ _ hw h
 |succ f ih=>
  intro ls a w hw h;rw [Nat.succ_add];exact⟨fun h0=>absurd h0 h.1,fun i hi=>wpOp_of_qOp hw (fun a' w' hw' h'=>ih _ a' w' hw' h') (h.2 i hi).2⟩
theorem headQ_first {n i:Nat}{oi:Oper}{v:Value}{L:Array Bool→Act→Prop}(hi:ops[i]?=some oi)(hsel:∀(j:Nat) (o:Oper) cs b,ops[j]?=some o→o.op≠ .select cs b)
  (hs:Region.sinkB md ops n=true) (hc:Region.chainB md ops n=true) (hn:n<ops.size) (hin:i<n) (hdone:∀ls a,L ls a→∀j∈Region.ready md ops ls,n≤j) (f:Nat) :
  ∀(ls:Array Bool) (a:Act),HeadInv md ops n ls→(∀j oj,ops[j]?=some oj→j≠i→ls.getD j true=false→(∀e∈oj.after,Region.binds md e=true→e.on≠i)→oi.apart ops oj=true)→
   i∈Region.ready md ops ls→YieldsIn P ops C oi v a→headQ P md ops C n L f (ls.setIfInBounds i true) (a.put oi.dst v)→headQ P md ops C n L (f+1) ls a:=by
 induction f with
 |zero=>
  intro ls a inv _ hr hy H;have hun:=(mem_ready.1 hr).1;refine⟨fun h=>(by rw [h] at hr;cases hr),fun j hj=>?_⟩;have hjn:j<n:=Nat.lt_of_not_le fun h=>tail_waits hs hc hn inv _ i rfl hin hun j h hj
  refine⟨hjn,?_⟩
  by_cases hji:j=i
  ·subst hji;exact hy.qOp hi H
  ·have:=hdone _ _ H j (ready_mono hj hji)
   omega
 |succ f ih=>
  intro ls a inv hfree hr hy H;have hun:=(mem_ready.1 hr).1;refine⟨fun h=>(by rw [h] at hr;cases hr),fun j hj=>?_⟩;have hjn:j<n:=Nat.lt_of_not_le fun h=>tail_waits hs hc hn inv _ i rfl hin hun j h hj
  refine⟨hjn,?_⟩
  by_cases hji:j=i
  ·subst hji;exact hy.qOp hi H
  ·obtain⟨hjun,oj,hoj,hall⟩:=mem_ready.1 hj;have hnot:∀e∈oj.after,Region.binds md e=true→e.on≠i:=fun e he hb heq=>by
    have h1:=hall e he hb;rw [heq,getD_both hun] at h1;cases h1
   have h2:=qOp_put hoj (hfree j oj hoj hji hjun hnot) (fun cs b=>hsel i oi cs b hi) (fun cs b=>hsel j oj cs b hoj) hy (H.2 j (ready_mono hj hji)).2;refine qOp_mono (fun a' h3=>ih _ a' (inv.set hj hjn) (fun k ok hk hki hu hno=>hfree k ok hk hki ?_ hno) (ready_mono hr (Ne.symm hji)) h3.1 ?_) h2
   ·by_cases hjk:j=k
    ·subst hjk;exact hjun
    ·rw [getD_set_ne true hjk] at hu;exact hu
   ·rw [Array.setIfInBounds_comm _ _ hji];exact h3.2
theorem headQ_lex {n g:Nat}{F:Act→Prop}(hsel:Region.noSelect ops=true)(hs:Region.sinkB md ops n=true)(hc:Region.chainB md ops n=true)(hn:n<ops.size):
  ∀(l:List Oper) (k:Nat) (ls:Array Bool) (a:Act),(∀j,j<l.length→l[j]?=ops[k+j]?)→k+l.length=n→HeadInv md ops n ls→
  Region.lexHead md ops g l.length k ls=true→wpQuiet P ops C F l a→headQ P md ops C n (fun ls' a'=>Region.seqB md ops g n ls'=true∧F a') l.length ls a
 |[],k,ls,a,_,hk,_,hB,h=>by
  obtain rfl:k=n:=by simpa using hk
  exact⟨by simpa [Region.lexHead] using hB,h⟩
 |o::l,k,ls,a,hl,hk,inv,hB,h=>by
  have h0:ops[k]?=some o:=by simpa using (hl 0 (by simp)).symm
  simp only [List.length_cons,Region.lexHead,Bool.and_eq_true] at hB hk;obtain⟨⟨hr,hf⟩,hB'⟩:=hB;have hr':k∈Region.ready md ops ls:=by simpa using hr
  obtain⟨v,hy,hK⟩:=yieldsIn_of_qOp (K:=wpQuiet P ops C F l) h0 (by unfold qOp;simp only [h0];exact h);exact headQ_first h0 (Region.noSelect_spec hsel) hs hc hn (by omega) (fun ls' a' hL=>seqB_ready hL.1) l.length ls a inv (Region.free_spec h0 hf) hr' hy
   (headQ_lex hsel hs hc hn l (k+1) _ _ (fun j hj=>by have:=hl (j+1) (by simp;omega);simpa [Nat.add_assoc,Nat.add_comm 1 j] using this) (by omega) (inv.set hr' (by omega)) hB' hK)
theorem wp_region_below_tail {id:Nat}{Q:Exit→Act→World→Prop}{a:Act}{w:World}{l:List Oper}(n:Nat)(hm:P.follows .mixedOrders=true)(hB:Region.lexTailB .any l.toArray n=true)
  (h:wpQuiet P l.toArray (fun w'=>∃p:Regrown,w'=grow (redrawn w p.d) p.os) (fun a'=>∀w',(∃p:Regrown,w'=grow (redrawn w p.d) p.os)→wpList P l.toArray Q (l.drop n) a' w') (l.take n) a):(Code.region id l.toArray true).wp P Q a w:=by
 simp only [Region.lexTailB,Bool.and_eq_true,decide_eq_true_eq] at hB;obtain⟨⟨⟨⟨hsel,hn⟩,hs⟩,hc⟩,hlex⟩:=hB;have hn':n<l.length:=by simpa using hn
 have htl:(l.take n).length=n:=by simp;omega
 have hdl:(l.drop n).length=l.toArray.size - n:=by simp
 have inv0:HeadInv .any l.toArray n (Array.replicate l.toArray.size false):=
  ⟨by simp,fun j oj _ hl=>(by rw [getD_replicate_false] at hl;cases hl),fun t _ ht=>getD_in (by simpa using ht) (getD_replicate_false _ _)⟩
 have H:=headQ_lex (md:= .any) (g:=l.toArray.size - n) hsel hs hc hn (l.take n) 0 _ a (fun j hj=>by
  have hj':j<n:=by rw [htl] at hj;exact hj
  simp [hj']) (by simpa using htl) inv0 (by rw [htl];exact hlex) h
 refine wp_region_any hm ?_
 have:=any_of_headQ (Q:=Q) (g:=l.toArray.size - n) (fun ls a' w' hw' hL=>by
  have:=wpAny_of_seq (md:= .any) (Q':=Q) (l.drop n) n ls a' w' (fun j=>by simp [List.getElem?_drop]) (by rw [hdl];exact hL.1) (hL.2 w' hw')
  rwa [hdl] at this) _ _ _ _ (show ∃p:Regrown,_=grow (redrawn w p.d) p.os from⟨⟨w.drawn+1,#[]⟩,by rw [grow_empty]⟩) H
 rw [htl,show n+(l.toArray.size - n)=l.toArray.size by omega] at this;exact this
end
section
variable {P:Program}
theorem wp_region_quiet_tail {id:Nat}{Q:Exit→Act→World→Prop}{a:Act}{w:World}{l:List Oper}(n:Nat)(hm:P.follows .mixedOrders=true)(hB:Region.lexTailB .any l.toArray n=true)
  (h:wpQuiet P l.toArray (fun w'=>∃m:Nat,w'=w.drewN m) (fun a'=>∀w',(∃m:Nat,w'=w.drewN m)→wpList P l.toArray Q (l.drop n) a' w') (l.take n) a):(Code.region id l.toArray true).wp P Q a w:=by
 simp only [Region.lexTailB,Bool.and_eq_true,decide_eq_true_eq] at hB;obtain⟨⟨⟨⟨hsel,hn⟩,hs⟩,hc⟩,hlex⟩:=hB;have hn':n<l.length:=by simpa using hn
 have htl:(l.take n).length=n:=by simp;omega
 have hdl:(l.drop n).length=l.toArray.size - n:=by simp
 have inv0:HeadInv .any l.toArray n (Array.replicate l.toArray.size false):=
  ⟨by simp,fun j oj _ hl=>(by rw [getD_replicate_false] at hl;cases hl),fun t _ ht=>getD_in (by simpa using ht) (getD_replicate_false _ _)⟩
 have H:=headQ_lex (md:= .any) (g:=l.toArray.size - n) hsel hs hc hn (l.take n) 0 _ a (fun j hj=>by
  have hj':j<n:=by rw [htl] at hj;exact hj
  simp [hj']) (by simpa using htl) inv0 (by rw [htl];exact hlex) h
 refine wp_region_any hm ?_
 have:=any_of_headQ (Q:=Q) (g:=l.toArray.size - n) (fun ls a' w' hw' hL=>by
  have:=wpAny_of_seq (md:= .any) (Q':=Q) (l.drop n) n ls a' w' (fun j=>by simp [List.getElem?_drop]) (by rw [hdl];exact hL.1) (hL.2 w' hw')
  rwa [hdl] at this) _ _ _ _ (show ∃m:Nat,w.drew=w.drewN m from⟨1,rfl⟩) H
 rw [htl,show n+(l.toArray.size - n)=l.toArray.size by omega] at this;exact this
end
end Hs
namespace Hs
open Go.RowKit
set_option maxHeartbeats 2000000 in
set_option maxRecDepth 100000 in
theorem writeByte_any (B b:Nat)(bs:List Value)(c:Int)(w:World)(h:Lib.IsBuilderF 188 5 B b bs w)(hlen:bs.length+1≤140737488355328)(hBw:B≤w.heap.size):
  Calls Tryz.prog 164 #[.pointer (some ⟨b,0,none⟩),.int .u8 c] w fun e w'=>e = .returned .nilIface∧Lib.BuilderAtF 188 5 B b (.pointer (some ⟨b,0,none⟩)) (bs++[.int .u8 c]) w'∧Below B w w'∧Lib.OthersKept 5 (some b) w w':=by
 obtain⟨i0,hi,hz0,hz1,hz2⟩:=info_parts infoByte;go_enter Tryz.func164,Tryz.ntmps164;go_wp2_with (go_at_call 187;refine(copyCheck_any B b bs _ h).mono ?_);rintro e w1 ⟨rfl,h1,hb1,hk1⟩;obtain⟨hB,v,hbk,hown,hne⟩:=h1;have c0:w1.cell? ⟨b,0,none⟩=some (.pointer (some ⟨b,0,none⟩)):=by rw [Lib.cell_of_heap hbk];rfl
 have c1:w1.cell? ⟨b,1,none⟩=some v:=by rw [Lib.cell_of_heap hbk];rfl
 have hsz:=hb1.size;go_wp2_with (at_builtin;refine wpList_append_ownF _ rfl _ _ 101 rfl B 5 i0 (.int .u8 0) 1 1 Tryz.underlying101 hi hz0 hz1 hz2 rfl (by decide) _ _ _ rfl (hown.alloc _) ⟨w1.heap.size,0,none⟩ 1 1 [.int .u8 c] rfl rfl ?c1 ?c2 ?c3 ?c4 ?c5 ?_)
 case c1=>
  intro j u hj
  match j,hj with
  |0,hj=>simp at hj;subst hj;simp [Addr.add]
 case c2=>intro u hu;simp at hu;subst hu;rfl
 case c3=>unfold maxLen;omega
 case c4=>omega
 case c5=>simp;omega
 intro v' w2 hown' hgrow _;have hlt:=blk_lt hbk;have hb2:w2.heap[b]?=some (.cells #[.pointer (some ⟨b,0,none⟩),v] 188 (0,0)):=by
  rw [hgrow.block b (by simp;omega) (fun e=>hne e.symm),Lib.alloc_old w1 _ b hlt];exact hbk
 have d0:w2.cell? ⟨b,0,none⟩=some (.pointer (some ⟨b,0,none⟩)):=by rw [Lib.cell_of_heap hb2];rfl
 have d1:w2.cell? ⟨b,1,none⟩=some v:=by rw [Lib.cell_of_heap hb2];rfl
 have f1:w2.frozen? ⟨b,1,none⟩=false:=Lib.frozen_of_heap hb2 1;obtain⟨g,cap,rfl⟩:∃g cap,v' = .slice (some ⟨g,0,none⟩) (bs.length+1) cap:=by
  rcases hown'.2 with ⟨_,h0⟩ | ⟨g,cap,cur,fz,hv,_⟩
  ·omega
  ·exact⟨g,cap,hv⟩
 go_wp2
 go_ret;refine⟨rfl,?_,?_,((hk1.alloc _).grown hgrow (Lib.ownsRowF_kind (hown.alloc _))).setCell ⟨b,1,none⟩ rfl _⟩
 ·exact Lib.BuilderAtF.put hB hb2 (bs':=bs++[.int .u8 c]) (by simpa using hown') (by decide)
 ·exact((hb1.alloc (by omega) _).grown hgrow (by simp;omega) (fun k hk=>(hown.lt k hk).1)).setCell (p:=⟨b,1,none⟩) hB _
theorem byteCells_snoc (l:List UInt8)(c:UInt8): Lib.byteCells l++[.int .u8 c.toNat]=Lib.byteCells (l++[c]):=by
 rw [Lib.byteCells_append];rfl
theorem write_b (B:Nat)(l:List UInt8)(c:UInt8)(w:World)(h:Bd B l w)(hlen:l.length+1≤140737488355328):
  Calls Tryz.prog 164 #[.pointer (some ⟨B,0,none⟩),.int .u8 c.toNat] w fun e w'=>e = .returned .nilIface∧Bd B (l++[c]) w'∧Below B w w'∧Lib.OthersKept 5 (some B) w w':=by
 refine(writeByte_any B B (Lib.byteCells l) c.toNat w h (by rw [Lib.byteCells_length];exact hlen) (Nat.le_of_lt h.lt)).mono ?_;rintro e w' ⟨rfl,h1,h2,h3⟩;rw [byteCells_snoc] at h1;exact⟨rfl,.inr h1,h2,h3⟩
end Hs
end Go.Proofs.YtpggkfdijmnmiaaGreat
