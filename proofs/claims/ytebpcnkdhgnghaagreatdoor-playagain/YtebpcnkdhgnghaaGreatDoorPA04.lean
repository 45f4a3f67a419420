import Derived.Test.YtebpcnkdhgnghaaGreatDoorMacB
import Derived.Shelf.Strings.OnBuilder
import Derived.Shelf.Small.Strs
import Derived.Shelf.Strconv.Itoa3
import Derived.Shelf.Strings.SplitShaped
import Derived.Test.YtebpcnkdhgnghaaGreatDoorProg
import Derived.WalkSpells
import Derived.Lib.AppendIntMem
import Derived.Lib.ItoaLen
import Derived.Shelf.Sort.Plain
import Derived.Shelf.Slices.In.SortNone
import Derived.Shelf.Strings.Cut
import Derived.Shelf.Strings.Repeat
import Derived.Stop.Asserts
import Derived.RowKitTokens
import Derived.Test.YtebpcnkdhgnghaaGreatDoorRows
import Derived.LaidMore
set_option linter.unusedSimpArgs false
set_option linter.unusedVariables false
set_option maxRecDepth 100000
set_option maxHeartbeats 64000000
section
namespace Go.Proofs
open Go.Proofs.Tryz
open Go.Shelf
def Tryz.lays156_ren:Go.Shelf.Ren:=⟨fun | 156=>50 | 165=>93 | 166=>94 | 169=>95 | 240=>166 | 241=>167 | 276=>222 | 277=>223 | n=>n,fun | 31=>102 | 9=>9 | 3=>3 | 4=>4 | 0=>0 | 20=>20 | 72=>186 | 76=>70 | 70=>183 | 37=>184 | 75=>36 | 127=>270 | 164=>237 | 5=>5 | 80=>40 | n=>n,fun | n=>n⟩
theorem Tryz.lays156:Go.Proofs.Lays.n156 prog Tryz.lays156_ren:={
 mixed:=zk
 f156:=func50.trans (congrArg some zk)
 f165:=func93.trans (congrArg some zk)
 f166:=func94.trans (congrArg some zk)
 f169:=func95.trans (congrArg some zk)
 f240:=func166.trans (congrArg some zk)
 f241:=func167.trans (congrArg some zk)
 f276:=func222.trans (congrArg some zk)
 f277:=func223.trans (congrArg some zk)
 t0:=underlying0
 a0:=isAgg0
 z0:=sizeOf0
 v0:=zeroValue0
 t3:=underlying3
 a3:=isAgg3
 z3:=sizeOf3
 v3:=zeroValue3
 t4:=underlying4
 a4:=isAgg4
 z4:=sizeOf4
 v4:=zeroValue4
 t9:=underlying9
 a9:=isAgg9
 z9:=sizeOf9
 v9:=zeroValue9
 t20:=underlying20
 a20:=isAgg20
 z20:=sizeOf20
 v20:=zeroValue20
 t31:=underlying102
 a31:=isAgg102
 z31:=sizeOf102
 v31:=zeroValue102
 t37:=underlying184
 a37:=isAgg184
 z37:=sizeOf184
 v37:=zeroValue184
 t70:=underlying183
 a70:=isAgg183
 z70:=sizeOf183
 v70:=zeroValue183
 t72:=underlying186
 a72:=isAgg186
 z72:=sizeOf186
 v72:=zeroValue186
 t75:=underlying36
 a75:=isAgg36
 z75:=sizeOf36
 v75:=zeroValue36
 t76:=underlying70
 a76:=isAgg70
 z76:=sizeOf70
 v76:=zeroValue70
 t127:=underlying270
 a127:=isAgg270
 z127:=sizeOf270
 v127:=zeroValue270
 t164:=underlying237
 a164:=isAgg237
 z164:=sizeOf237
 v164:=zeroValue237}
theorem Tryz.Builder_Extra_156:Builder.Extra prog Tryz.lays156_ren:={
 sizeBuilder:=zk
 liesBuilder:=zk
 t5:=underlying5
 a5:=isAgg5
 z5:=sizeOf5
 v5:=zeroValue5
 infoByte:=zk
 cellsByte:=zk
 sizeByte:=zk
 neB5:=zo}
open Go.RowKit in
theorem Tryz.strings_Join_none (a:Option Addr) (c:Nat) (sep:ByteArray) (w:World):
  Calls prog 50 #[.slice a 0 c,.string sep] w fun e w'=>e= .returned (.string ⟨#[]⟩)/\w'=w:=Any.strings_Join_none Tryz.lays156 Tryz.Builder_Extra_156 a c sep w
open Go.RowKit in
theorem Tryz.strings_Join (bk o c:Nat) (xs:List ByteArray) (sep:ByteArray) (w:World) (hcells:∀(j:Nat) x,xs[j]? =some x->w.cell? ⟨bk,o+j,none⟩=some (.string x)) (hbk:bk<w.heap.size) (hN:xs.length<=140737488355328) (hcap:xs.length<=c) (hlen:(Lib.join (xs.map (·.data.toList)) sep.data.toList).length<=140737488355328):
  Calls prog 50 #[.slice (some ⟨bk,o,none⟩) xs.length c,.string sep] w fun e w'=>e= .returned (.string ⟨(Lib.join (xs.map (·.data.toList)) sep.data.toList).toArray⟩)/\Below w.heap.size w w':=Any.strings_Join Tryz.lays156 Tryz.Builder_Extra_156 bk o c xs sep w hcells hbk hN hcap hlen
def Tryz.lays137_ren:Go.Shelf.Ren:=⟨fun | 137=>369 | 217=>364 | 266=>370 | n=>n,fun | 9=>9 | 5=>5 | 3=>3 | n=>n,fun | n=>n⟩
theorem Tryz.lays137:Go.Proofs.Lays.n137 prog Tryz.lays137_ren:={
 mixed:=zk
 f137:=func369.trans (congrArg some zk)
 f217:=func364.trans (congrArg some zk)
 f266:=func370.trans (congrArg some zk)
 t3:=underlying3
 a3:=isAgg3
 z3:=sizeOf3
 v3:=zeroValue3
 t5:=underlying5
 a5:=isAgg5
 z5:=sizeOf5
 v5:=zeroValue5
 t9:=underlying9
 a9:=isAgg9
 z9:=sizeOf9
 v9:=zeroValue9}
open Go.RowKit in
theorem Tryz.strings_IndexByte (s:ByteArray) (c:Int) (w:World):
  Calls prog 369 #[.string s,.int .u8 c] w fun e w'=>e= .returned (.int .i64 (Lib.indexByte s.data.toList c.toNat.toUInt8))/\w'=w:=Any.strings_IndexByte Tryz.lays137 s c w
def Tryz.laysM171_ren:Go.Shelf.Ren:=⟨fun | 171=>49 | 243=>92 | 246=>165 | 283=>218 | 284=>219 | 285=>220 | 286=>221 | 129=>236 | 317=>273 | 318=>274 | 319=>275 | 320=>276 | 337=>324 | 338=>325 | n=>n,fun | 3=>3 | 9=>9 | 2=>2 | 4=>4 | 171=>324 | 0=>0 | 53=>325 | 37=>184 | 5=>5 | 173=>328 | 212=>368 | 51=>342 | 20=>20 | 213=>369 | 46=>277 | 232=>420 | 233=>421 | n=>n,fun | 17=>13 | 18=>15 | 19=>16 | n=>n⟩
theorem Tryz.laysM171:Go.Proofs.LaysM.n171 prog Tryz.laysM171_ren:={
 mixed:=zk
 f129:=func236.trans (congrArg some zk)
 f171:=func49.trans (congrArg some zk)
 f243:=func92.trans (congrArg some zk)
 f246:=func165.trans (congrArg some zk)
 f283:=func218.trans (congrArg some zk)
 f284:=func219.trans (congrArg some zk)
 f285:=func220.trans (congrArg some zk)
 f286:=func221.trans (congrArg some zk)
 f317:=func273.trans (congrArg some zk)
 f318:=func274.trans (congrArg some zk)
 f319:=func275.trans (congrArg some zk)
 f320:=func276.trans (congrArg some zk)
 f337:=func324.trans (congrArg some zk)
 f338:=func325.trans (congrArg some zk)
 t0:=underlying0
 a0:=isAgg0
 z0:=sizeOf0
 v0:=zeroValue0
 t2:=underlying2
 a2:=isAgg2
 z2:=sizeOf2
 v2:=zeroValue2
 t3:=underlying3
 a3:=isAgg3
 z3:=sizeOf3
 v3:=zeroValue3
 t4:=underlying4
 a4:=isAgg4
 z4:=sizeOf4
 v4:=zeroValue4
 t5:=underlying5
 a5:=isAgg5
 z5:=sizeOf5
 v5:=zeroValue5
 t9:=underlying9
 a9:=isAgg9
 z9:=sizeOf9
 v9:=zeroValue9
 t20:=underlying20
 a20:=isAgg20
 z20:=sizeOf20
 v20:=zeroValue20
 t37:=underlying184
 a37:=isAgg184
 z37:=sizeOf184
 v37:=zeroValue184
 t46:=underlying277
 a46:=isAgg277
 z46:=sizeOf277
 v46:=zeroValue277
 t51:=underlying342
 a51:=isAgg342
 z51:=sizeOf342
 v51:=zeroValue342
 t53:=underlying325
 a53:=isAgg325
 z53:=sizeOf325
 v53:=zeroValue325
 t171:=underlying324
 a171:=isAgg324
 z171:=sizeOf324
 v171:=zeroValue324
 t173:=underlying328
 a173:=isAgg328
 z173:=sizeOf328
 v173:=zeroValue328
 t212:=underlying368
 a212:=isAgg368
 z212:=sizeOf368
 v212:=zeroValue368
 t213:=underlying369
 a213:=isAgg369
 z213:=sizeOf369
 t232:=underlying420
 a232:=isAgg420
 z232:=sizeOf420
 v232:=zeroValue420
 t233:=underlying421
 a233:=isAgg421
 z233:=sizeOf421
 v233:=zeroValue421
 g17:=zk
 g18:=zk
 g19:=zk
 i0:=zk
 i2:=zk
 i3:=zk
 i4:=zk
 i5:=zk
 i9:=zk
 i20:=zk
 i37:=zk
 i46:=zk
 i51:=zk
 i53:=zk
 i171:=zk
 i173:=zk
 i212:=zk
 i232:=zk
 i233:=zk
 m17:=zk
 m18:=zk
 m19:=zk}
open Go.RowKit Go.Sort Go.Lib in
theorem Tryz.strconv_Itoa (n:Int) (h0: -9223372036854775808<=n) (h1:n<=9223372036854775807) (w:World) (htab:Lib.TabIs prog w "internal/strconv.uint64pow10" .u64 Lib.pow10Tab):
  Calls prog 49 #[.int .i64 n] w fun e w'=>e= .returned (.string ⟨(Lib.itoa n).toArray⟩)/\∃k os,w'=grow (w.drewN k) os:=Any.strconv_Itoa Tryz.laysM171 n h0 h1 w htab
def Tryz.lays147_ren:Go.Shelf.Ren:=⟨fun | 147=>361 | 221=>368 | 268=>372 | 138=>373 | 143=>374 | 195=>375 | 197=>376 | 218=>377 | 219=>360 | 260=>378 | 217=>364 | 225=>365 | 224=>366 | 267=>367 | 266=>370 | 314=>371 | n=>n,fun | 9=>9 | 3=>3 | 31=>102 | 4=>4 | 0=>0 | 105=>444 | 21=>21 | 5=>5 | 46=>277 | 119=>446 | 139=>449 | 138=>448 | 146=>429 | 51=>342 | n=>n,fun | 1=>14 | 3=>17 | 4=>18 | n=>n⟩
theorem Tryz.lays147:Go.Proofs.Lays.n147 prog Tryz.lays147_ren:={
 mixed:=zk
 f138:=func373.trans (congrArg some zk)
 f143:=func374.trans (congrArg some zk)
 f147:=func361.trans (congrArg some zk)
 f195:=func375.trans (congrArg some zk)
 f197:=func376.trans (congrArg some zk)
 f217:=func364.trans (congrArg some zk)
 f218:=func377.trans (congrArg some zk)
 f219:=func360.trans (congrArg some zk)
 f221:=func368.trans (congrArg some zk)
 f224:=func366.trans (congrArg some zk)
 f225:=func365.trans (congrArg some zk)
 f260:=func378.trans (congrArg some zk)
 f266:=func370.trans (congrArg some zk)
 f267:=func367.trans (congrArg some zk)
 f268:=func372.trans (congrArg some zk)
 f314:=func371.trans (congrArg some zk)
 t0:=underlying0
 a0:=isAgg0
 z0:=sizeOf0
 v0:=zeroValue0
 t3:=underlying3
 a3:=isAgg3
 z3:=sizeOf3
 v3:=zeroValue3
 t4:=underlying4
 a4:=isAgg4
 z4:=sizeOf4
 v4:=zeroValue4
 t5:=underlying5
 a5:=isAgg5
 z5:=sizeOf5
 v5:=zeroValue5
 t9:=underlying9
 a9:=isAgg9
 z9:=sizeOf9
 v9:=zeroValue9
 t21:=underlying21
 a21:=isAgg21
 z21:=sizeOf21
 v21:=zeroValue21
 t31:=underlying102
 a31:=isAgg102
 z31:=sizeOf102
 v31:=zeroValue102
 t46:=underlying277
 a46:=isAgg277
 z46:=sizeOf277
 v46:=zeroValue277
 t51:=underlying342
 a51:=isAgg342
 z51:=sizeOf342
 v51:=zeroValue342
 t105:=underlying444
 a105:=isAgg444
 z105:=sizeOf444
 v105:=zeroValue444
 t119:=underlying446
 a119:=isAgg446
 z119:=sizeOf446
 t138:=underlying448
 a138:=isAgg448
 z138:=sizeOf448
 v138:=zeroValue448
 t139:=underlying449
 a139:=isAgg449
 z139:=sizeOf449
 v139:=zeroValue449
 t146:=underlying429
 a146:=isAgg429
 z146:=sizeOf429
 v146:=zeroValue429
 g1:=zk
 g3:=zk
 g4:=zk}
open Go.RowKit Go.Lib in
theorem Tryz.strings_SplitN (s sep:ByteArray) (n:Nat) (m:Int) (w:World) (hs:s.size<4294967281) (hm:w.cell? ⟨14,0,none⟩=some (.int .i64 m)) (h1:1<=sep.size) (hn:1<=n) (hn63:n<=9223372036854775807):
  Calls prog 361 #[.string s,.string sep,.int .i64 n] w fun e w'=>
   e= .returned (.slice (some ⟨w.heap.size,0,none⟩) (Lib.splitB sep 0 (min n (s.size+1) - 1) s).length (min n (s.size+1)))/\w'=w.alloc (.cells (Lib.cellsOf (Lib.splitB sep 0 (min n (s.size+1) - 1) s) (min n (s.size+1))) 9):=Any.strings_SplitN Tryz.lays147 zk s sep n m w hs hm h1 hn hn63
def Tryz.laysM147_ren:Go.Shelf.Ren:=⟨fun | 147=>361 | 221=>368 | 268=>372 | 138=>373 | 143=>374 | 195=>375 | 197=>376 | 218=>377 | 219=>360 | 260=>378 | 217=>364 | 225=>365 | 224=>366 | 267=>367 | 266=>370 | 314=>371 | n=>n,fun | 9=>9 | 3=>3 | 31=>102 | 4=>4 | 0=>0 | 105=>444 | 21=>21 | 5=>5 | 46=>277 | 119=>446 | 139=>449 | 138=>448 | 146=>429 | 51=>342 | n=>n,fun | 1=>14 | 3=>17 | 4=>18 | n=>n⟩
theorem Tryz.laysM147:Go.Proofs.LaysM.n147 prog Tryz.laysM147_ren:={
 mixed:=zk
 f138:=func373.trans (congrArg some zk)
 f143:=func374.trans (congrArg some zk)
 f147:=func361.trans (congrArg some zk)
 f195:=func375.trans (congrArg some zk)
 f197:=func376.trans (congrArg some zk)
 f217:=func364.trans (congrArg some zk)
 f218:=func377.trans (congrArg some zk)
 f219:=func360.trans (congrArg some zk)
 f221:=func368.trans (congrArg some zk)
 f224:=func366.trans (congrArg some zk)
 f225:=func365.trans (congrArg some zk)
 f260:=func378.trans (congrArg some zk)
 f266:=func370.trans (congrArg some zk)
 f267:=func367.trans (congrArg some zk)
 f268:=func372.trans (congrArg some zk)
 f314:=func371.trans (congrArg some zk)
 t0:=underlying0
 a0:=isAgg0
 z0:=sizeOf0
 v0:=zeroValue0
 t3:=underlying3
 a3:=isAgg3
 z3:=sizeOf3
 v3:=zeroValue3
 t4:=underlying4
 a4:=isAgg4
 z4:=sizeOf4
 v4:=zeroValue4
 t5:=underlying5
 a5:=isAgg5
 z5:=sizeOf5
 v5:=zeroValue5
 t9:=underlying9
 a9:=isAgg9
 z9:=sizeOf9
 v9:=zeroValue9
 t21:=underlying21
 a21:=isAgg21
 z21:=sizeOf21
 v21:=zeroValue21
 t31:=underlying102
 a31:=isAgg102
 z31:=sizeOf102
 v31:=zeroValue102
 t46:=underlying277
 a46:=isAgg277
 z46:=sizeOf277
 v46:=zeroValue277
 t51:=underlying342
 a51:=isAgg342
 z51:=sizeOf342
 v51:=zeroValue342
 t105:=underlying444
 a105:=isAgg444
 z105:=sizeOf444
 v105:=zeroValue444
 t119:=underlying446
 a119:=isAgg446
 z119:=sizeOf446
 t138:=underlying448
 a138:=isAgg448
 z138:=sizeOf448
 v138:=zeroValue448
 t139:=underlying449
 a139:=isAgg449
 z139:=sizeOf449
 v139:=zeroValue449
 t146:=underlying429
 a146:=isAgg429
 z146:=sizeOf429
 v146:=zeroValue429
 g1:=zk
 g3:=zk
 g4:=zk
 i0:=zk
 i3:=zk
 i4:=zk
 i5:=zk
 i9:=zk
 i21:=zk
 i31:=zk
 i46:=zk
 i51:=zk
 i105:=zk
 i138:=zk
 i139:=zk
 i146:=zk
 m1:=zk
 s1_3:=fun w h=>Go.Proofs.cell_of_shapedOpen_int (zero:= #[.int .i64 0]) (t:=3) h (of_decide_eq_true zk) zk rfl zk zk underlying3
 m3:=zk
 m4:=zk}
end Go.Proofs
end
section
namespace Go.Proofs.YtebpcnkdhgnghaaGreatDoor
open Go.RowKit
theorem lT (n:Int) (h0: -9223372036854775808<=n) (h1:n<=9223372036854775807) (w:World) (htab:Lib.TabIs Tryz.prog w "internal/strconv.uint64pow10" .u64 Lib.pow10Tab):
  Calls Tryz.prog 49 #[.int .i64 n] w fun e w'=>e= .returned (.string ⟨(Lib.itoa n).toArray⟩)/\Below w.heap.size w w':=by
 refine (Tryz.strconv_Itoa n h0 h1 w htab).mono ?_
 rintro e w' ⟨rfl,k,os,rfl⟩
 exact ⟨rfl,Lib.below_grow _ _ zg _ _⟩
end Go.Proofs.YtebpcnkdhgnghaaGreatDoor
end
section
namespace Go.Proofs.YtebpcnkdhgnghaaGreatDoor
open Go.RowKit
theorem EK (s:ByteArray) (c:Nat) (h:c<=s.size):∃F:ByteArray,F.data.toList=s.data.toList.drop c/\∀w,(Instr.slice 9 (.string s) (some (.int .i64 (c:Int))) none none).run Tryz.prog w= .ok (.string F) w:=by
 refine ⟨s.extract c s.size,by simp;rw [vm zq],fun w=> ?_⟩
 have h1:(c:Int)<=(s.size:Int):=zj
 have h0:(0:Int)<=(c:Int):=zj
 go_simp
theorem oX (x y:ByteArray) (h:x.size+y.size<=9223372036854775807):∃F:ByteArray,F.data.toList=x.data.toList++y.data.toList/\F.size=x.size+y.size/\∀w,(Op.stringOp .add x y).run Tryz.prog w= .ok (.string F) w:=by
 refine ⟨x++y,zq,zq,fun w=> ?_⟩
 rw [run_string_add_sum w x y h]
theorem EE {x y:ByteArray} (h:x.data.toList=y.data.toList):x=y:=by
 cases x;cases y
 simp at h
 rw [h]
theorem FX (s:ByteArray) (k:Nat) (h:k<s.size):s.data.toList.take k++ [s[k]]=s.data.toList.take (k+1):=by
 have hl:k<s.data.toList.length:=qy
 rw [List.take_succ_eq_append_getElem hl]
 congr 1
end Go.Proofs.YtebpcnkdhgnghaaGreatDoor
end
section
namespace Go.Proofs
open Go.Proofs.Tryz
open Go.Shelf
def Tryz.lays189_ren:Go.Shelf.Ren:=⟨fun | 189=>101 | 125=>174 | 257=>173 | 128=>235 | 129=>236 | 294=>226 | 295=>227 | 296=>228 | 297=>229 | 298=>230 | 299=>231 | 216=>232 | 300=>233 | 301=>234 | 328=>285 | 329=>286 | 330=>287 | 331=>288 | 332=>289 | 215=>171 | 343=>329 | n=>n,fun | 28=>42 | 3=>3 | 46=>277 | 0=>0 | 51=>342 | 53=>325 | 4=>4 | 183=>336 | 182=>335 | 131=>296 | 5=>5 | 9=>9 | 218=>375 | 222=>379 | 228=>403 | 229=>76 | n=>n,fun | n=>n⟩
theorem Tryz.lays189:Go.Proofs.Lays.n189 prog Tryz.lays189_ren:={
 mixed:=zk
 f125:=func174.trans (congrArg some zk)
 f128:=func235.trans (congrArg some zk)
 f129:=func236.trans (congrArg some zk)
 f189:=func101.trans (congrArg some zk)
 f215:=func171.trans (congrArg some zk)
 f216:=func232.trans (congrArg some zk)
 f257:=func173.trans (congrArg some zk)
 f294:=func226.trans (congrArg some zk)
 f295:=func227.trans (congrArg some zk)
 f296:=func228.trans (congrArg some zk)
 f297:=func229.trans (congrArg some zk)
 f298:=func230.trans (congrArg some zk)
 f299:=func231.trans (congrArg some zk)
 f300:=func233.trans (congrArg some zk)
 f301:=func234.trans (congrArg some zk)
 f328:=func285.trans (congrArg some zk)
 f329:=func286.trans (congrArg some zk)
 f330:=func287.trans (congrArg some zk)
 f331:=func288.trans (congrArg some zk)
 f332:=func289.trans (congrArg some zk)
 f343:=func329.trans (congrArg some zk)
 t0:=underlying0
 a0:=isAgg0
 z0:=sizeOf0
 v0:=zeroValue0
 t3:=underlying3
 a3:=isAgg3
 z3:=sizeOf3
 v3:=zeroValue3
 t4:=underlying4
 a4:=isAgg4
 z4:=sizeOf4
 v4:=zeroValue4
 t5:=underlying5
 a5:=isAgg5
 z5:=sizeOf5
 v5:=zeroValue5
 t9:=underlying9
 a9:=isAgg9
 z9:=sizeOf9
 v9:=zeroValue9
 t28:=underlying42
 a28:=isAgg42
 z28:=sizeOf42
 v28:=zeroValue42
 t46:=underlying277
 a46:=isAgg277
 z46:=sizeOf277
 v46:=zeroValue277
 t51:=underlying342
 a51:=isAgg342
 z51:=sizeOf342
 v51:=zeroValue342
 t53:=underlying325
 a53:=isAgg325
 z53:=sizeOf325
 v53:=zeroValue325
 t131:=underlying296
 a131:=isAgg296
 z131:=sizeOf296
 v131:=zeroValue296
 t182:=underlying335
 a182:=isAgg335
 z182:=sizeOf335
 v182:=zeroValue335
 t183:=underlying336
 a183:=isAgg336
 z183:=sizeOf336
 v183:=zeroValue336
 t218:=underlying375
 a218:=isAgg375
 z218:=sizeOf375
 v218:=zeroValue375
 t222:=underlying379
 a222:=isAgg379
 z222:=sizeOf379
 v222:=zeroValue379
 t228:=underlying403
 a228:=isAgg403
 z228:=sizeOf403
 v228:=zeroValue403
 t229:=underlying76
 a229:=isAgg76
 z229:=sizeOf76
 v229:=zeroValue76}
open Go.Sort Go.RowKit in
theorem Tryz.slices_Sort_int (blk off cap:Nat) (zs:List Int) (w:World) (hH:Holds (Value.int .i64) w blk off zs.toArray) (hblk:blk<w.heap.size) (hsz:zs.length<4611686018427387904):
  Calls prog 101 #[.slice (some ⟨blk,off,none⟩) zs.length cap] w fun e w'=>
   e= .returned (.tuple #[])/\∃n os,w'=grow (putRow (Value.int .i64) (Sort.ahead w n) blk off (zs.mergeSort fun x y=>decide (x<=y)).toArray) os:=Any.slices_Sort_int Tryz.lays189 blk off cap zs w hH hblk hsz
open Go.RowKit Go.Sort in
theorem Tryz.slices_Sort_int_none (p:Option Addr) (cap:Nat) (w:World):
  Calls prog 101 #[.slice p 0 cap] w fun e w'=>e= .returned (.tuple #[])/\w'=w:=Any.slices_Sort_int_none Tryz.lays189 p cap w
end Go.Proofs
end
section
namespace Go.Proofs
open Go.Proofs.Tryz
open Go.Shelf
def Tryz.lays145_ren:Go.Shelf.Ren:=⟨fun | 145=>350 | 220=>357 | 219=>360 | 217=>364 | 225=>365 | 224=>366 | 267=>367 | 266=>370 | 314=>371 | n=>n,fun | 9=>9 | 4=>4 | 59=>424 | 3=>3 | 5=>5 | 46=>277 | 146=>429 | 51=>342 | n=>n,fun | 1=>14 | n=>n⟩
theorem Tryz.lays145:Go.Proofs.Lays.n145 prog Tryz.lays145_ren:={
 mixed:=zk
 f145:=func350.trans (congrArg some zk)
 f217:=func364.trans (congrArg some zk)
 f219:=func360.trans (congrArg some zk)
 f220:=func357.trans (congrArg some zk)
 f224:=func366.trans (congrArg some zk)
 f225:=func365.trans (congrArg some zk)
 f266:=func370.trans (congrArg some zk)
 f267:=func367.trans (congrArg some zk)
 f314:=func371.trans (congrArg some zk)
 t3:=underlying3
 a3:=isAgg3
 z3:=sizeOf3
 v3:=zeroValue3
 t4:=underlying4
 a4:=isAgg4
 z4:=sizeOf4
 v4:=zeroValue4
 t5:=underlying5
 a5:=isAgg5
 z5:=sizeOf5
 v5:=zeroValue5
 t9:=underlying9
 a9:=isAgg9
 z9:=sizeOf9
 v9:=zeroValue9
 t46:=underlying277
 a46:=isAgg277
 z46:=sizeOf277
 v46:=zeroValue277
 t51:=underlying342
 a51:=isAgg342
 z51:=sizeOf342
 v51:=zeroValue342
 t59:=underlying424
 a59:=isAgg424
 z59:=sizeOf424
 v59:=zeroValue424
 t146:=underlying429
 a146:=isAgg429
 z146:=sizeOf429
 v146:=zeroValue429
 g1:=zk}
open Go.RowKit Go.Lib in
theorem Tryz.strings_Cut (s sep:ByteArray) (m:Int) (w:World) (hs:s.size<4294967281) (hm:w.cell? ⟨14,0,none⟩=some (.int .i64 m)):
  Calls prog 350 #[.string s,.string sep] w fun e w'=>e= .returned (.tuple #[.string ⟨(Lib.cut s.data.toList sep.data.toList).1.toArray⟩,.string ⟨(Lib.cut s.data.toList sep.data.toList).2.1.toArray⟩,.bool (Lib.cut s.data.toList sep.data.toList).2.2])/\∃n,w'=w.drewN n:=Any.strings_Cut Tryz.lays145 s sep m w hs hm
def Tryz.lays99_ren:Go.Shelf.Ren:=⟨fun | 99=>346 | 206=>356 | n=>n,fun | 9=>9 | 4=>4 | 3=>3 | n=>n,fun | n=>n⟩
theorem Tryz.lays99:Go.Proofs.Lays.n99 prog Tryz.lays99_ren:={
 mixed:=zk
 f99:=func346.trans (congrArg some zk)
 f206:=func356.trans (congrArg some zk)
 t3:=underlying3
 a3:=isAgg3
 z3:=sizeOf3
 v3:=zeroValue3
 t4:=underlying4
 a4:=isAgg4
 z4:=sizeOf4
 v4:=zeroValue4
 t9:=underlying9
 a9:=isAgg9
 z9:=sizeOf9
 v9:=zeroValue9}
open Go.RowKit Go.Lib in
theorem Tryz.strings_HasPrefix (s p:ByteArray) (w:World):
  Calls prog 346 #[.string s,.string p] w fun e w'=>e= .returned (.bool (Lib.hasPrefix s.data.toList p.data.toList))/\w'=w:=Any.strings_HasPrefix Tryz.lays99 s p w
def Tryz.lays105_ren:Go.Shelf.Ren:=⟨fun | 105=>323 | 212=>345 | 99=>346 | 165=>93 | 166=>94 | 170=>347 | 169=>95 | 263=>354 | 264=>355 | 206=>356 | 240=>166 | 241=>167 | 276=>222 | 277=>223 | n=>n,fun | 9=>9 | 3=>3 | 4=>4 | 20=>20 | 0=>0 | 46=>277 | 109=>417 | 5=>5 | 72=>186 | 76=>70 | 51=>342 | 146=>429 | 53=>325 | 148=>431 | 70=>183 | 37=>184 | 75=>36 | 127=>270 | 164=>237 | 80=>40 | n=>n,fun | n=>n⟩
theorem Tryz.lays105:Go.Proofs.Lays.n105 prog Tryz.lays105_ren:={
 mixed:=zk
 f99:=func346.trans (congrArg some zk)
 f105:=func323.trans (congrArg some zk)
 f165:=func93.trans (congrArg some zk)
 f166:=func94.trans (congrArg some zk)
 f169:=func95.trans (congrArg some zk)
 f170:=func347.trans (congrArg some zk)
 f206:=func356.trans (congrArg some zk)
 f212:=func345.trans (congrArg some zk)
 f240:=func166.trans (congrArg some zk)
 f241:=func167.trans (congrArg some zk)
 f263:=func354.trans (congrArg some zk)
 f264:=func355.trans (congrArg some zk)
 f276:=func222.trans (congrArg some zk)
 f277:=func223.trans (congrArg some zk)
 t0:=underlying0
 a0:=isAgg0
 z0:=sizeOf0
 v0:=zeroValue0
 t3:=underlying3
 a3:=isAgg3
 z3:=sizeOf3
 v3:=zeroValue3
 t4:=underlying4
 a4:=isAgg4
 z4:=sizeOf4
 v4:=zeroValue4
 t5:=underlying5
 a5:=isAgg5
 z5:=sizeOf5
 v5:=zeroValue5
 t9:=underlying9
 a9:=isAgg9
 z9:=sizeOf9
 v9:=zeroValue9
 t20:=underlying20
 a20:=isAgg20
 z20:=sizeOf20
 v20:=zeroValue20
 t37:=underlying184
 a37:=isAgg184
 z37:=sizeOf184
 v37:=zeroValue184
 t46:=underlying277
 a46:=isAgg277
 z46:=sizeOf277
 v46:=zeroValue277
 t51:=underlying342
 a51:=isAgg342
 z51:=sizeOf342
 v51:=zeroValue342
 t53:=underlying325
 a53:=isAgg325
 z53:=sizeOf325
 v53:=zeroValue325
 t70:=underlying183
 a70:=isAgg183
 z70:=sizeOf183
 v70:=zeroValue183
 t72:=underlying186
 a72:=isAgg186
 z72:=sizeOf186
 v72:=zeroValue186
 t75:=underlying36
 a75:=isAgg36
 z75:=sizeOf36
 v75:=zeroValue36
 t76:=underlying70
 a76:=isAgg70
 z76:=sizeOf70
 v76:=zeroValue70
 t109:=underlying417
 a109:=isAgg417
 z109:=sizeOf417
 v109:=zeroValue417
 t127:=underlying270
 a127:=isAgg270
 z127:=sizeOf270
 v127:=zeroValue270
 t146:=underlying429
 a146:=isAgg429
 z146:=sizeOf429
 v146:=zeroValue429
 t148:=underlying431
 a148:=isAgg431
 z148:=sizeOf431
 v148:=zeroValue431
 t164:=underlying237
 a164:=isAgg237
 z164:=sizeOf237
 v164:=zeroValue237}
theorem Tryz.Builder_Extra_105:Builder.Extra prog Tryz.lays105_ren:={
 sizeBuilder:=zk
 liesBuilder:=zk
 t5:=underlying5
 a5:=isAgg5
 z5:=sizeOf5
 v5:=zeroValue5
 infoByte:=zk
 cellsByte:=zk
 sizeByte:=zk
 neB5:=zo}
open Go.RowKit Go.Lib in
theorem Tryz.strings_Repeat (s:ByteArray) (c:Nat) (w:World) (hc:c<=9223372036854775807) (hlen:s.size*c<=140737488355328):
  Calls prog 323 #[.string s,.int .i64 c] w fun e w'=>e= .returned (.string ⟨(Lib.repeatL s.data.toList c).toArray⟩)/\Below w.heap.size w w':=Any.strings_Repeat Tryz.lays105 Tryz.Builder_Extra_105 s c w hc hlen
end Go.Proofs
end
section
namespace Go.Proofs.YtebpcnkdhgnghaaGreatDoor
open Go.Proofs.Tryz
open Go.RowKit
theorem Ex (m d:Nat):Int.tdiv (m:Int) (d:Int)=((m / d:Nat):Int):=by rw [Int.tdiv_eq_ediv_of_nonneg zj];rfl
theorem ft (m d:Nat):Int.tmod (m:Int) (d:Int)=((m % d:Nat):Int):=by rw [Int.tmod_eq_emod_of_nonneg zj];rfl
theorem wV (m:Nat) (hm:m<9223372036854775808) (w:World):
  Calls prog 83 #[.int .i64 (m:Int)] w fun e w'=>e= .returned (.agg #[.int .i64 ((m % 16:Nat):Int),.int .i64 ((m / 16 % 3:Nat):Int),.int .i64 ((m / 16 / 3:Nat):Int)])/\Below w.heap.size w w':=by
 have q1:Int.tdiv (m:Int) 16=((m / 16:Nat):Int):=Ex m 16
 have q2:Int.tmod (m:Int) 16=((m % 16:Nat):Int):=ft m 16
 obtain ⟨q,hq⟩:=za (m / 16)
 obtain ⟨r,hr⟩:=za (m % 16)
 rw [<-hq] at q1 |-
 rw [<-hr] at q2 |-
 have q3:Int.tdiv (q:Int) 3=((q / 3:Nat):Int):=Ex q 3
 have q4:Int.tmod (q:Int) 3=((q % 3:Nat):Int):=ft q 3
 obtain ⟨a,ha⟩:=za (q / 3)
 obtain ⟨b,hb⟩:=za (q % 3)
 rw [<-ha] at q3 |-
 rw [<-hb] at q4 |-
 have l1:q<9223372036854775808:=zj
 have l2:r<9223372036854775808:=zj
 have l3:a<9223372036854775808:=zj
 have l4:b<9223372036854775808:=zj
 clear hq hr ha hb
 go_enter func83,ntmps83
 go_wp2
 refine bodyPost_ret (v:=.agg #[.int .i64 (r:Int),.int .i64 (b:Int),.int .i64 (a:Int)]) (by simp [results,results83,go_sem]) rfl ⟨rfl,?_⟩
 exact zh w _
theorem LR (k:Nat) (hk:k<26) (w:World):(convert 21 9 (.int .i32 (97+(k:Int)))).run prog w= .ok (.string ⟨#[UInt8.ofNat (97+k)]⟩) w:=by
 have h:k=0\/k=1\/k=2\/k=3\/k=4\/k=5\/k=6\/k=7\/k=8\/k=9\/k=10\/k=11\/k=12\/k=13\/k=14\/k=15\/k=16\/k=17\/k=18\/k=19\/k=20\/k=21\/k=22\/k=23\/k=24\/k=25:=zj
 rcases h with rfl | rfl | rfl | rfl | rfl | rfl | rfl | rfl | rfl | rfl | rfl | rfl | rfl | rfl | rfl | rfl | rfl | rfl | rfl | rfl | rfl | rfl | rfl | rfl | rfl | rfl<;>(show _=_;kernel_rfl)
theorem fp (k:Nat) (hk:k<26) (w:World):
  Calls prog 213 #[.int .i64 (k:Int)] w fun e w'=>e= .returned (.string ⟨#[UInt8.ofNat (97+k)]⟩)/\w'=w:=by
 have hr:=LR k hk
 obtain ⟨ch,hch⟩:=za (UInt8.ofNat (97+k))
 rw [<-hch]
 simp only [<-hch] at hr
 clear hch
 go_enter func213,ntmps213
 exact ka9
end Go.Proofs.YtebpcnkdhgnghaaGreatDoor
end
section
namespace Go.Proofs.YtebpcnkdhgnghaaGreatDoor
open Go.Proofs.Tryz
open Go.RowKit Go.Extern.Stop Go.Stop Go.Extern
theorem Tryz.xValueOfPP (t:Addr) (w:World):(ReflectliteValue.unpack (.iface 158 (.pointer (some t)))).run prog w
  = .ok (.agg #[.pointer (some ⟨19,158,none⟩),.pointer (some ⟨w.heap.size,0,none⟩),.int .u64 150]) (w.alloc (.cells #[.pointer (some t)] 158)):=zk
theorem Tryz.xTypePP (a:Addr) (w:World):(ReflectliteValue.methodAny (ReflectliteValue.valueError "reflectlite.Value.Type" 0) (fun t _ _ _=>ReflectliteType.toType t) #[.agg #[.pointer (some ⟨19,158,none⟩),.pointer (some a),.int .u64 150]]).run prog w
  = .ok (.iface 306 (.agg #[.pointer (some ⟨19,158,none⟩)])) w:=zk
theorem Tryz.xMethodKind (h:Value) (w:World):(Go.method 580 306 (.agg #[h]) "Kind").run prog w= .ok (393,h) w:=zk
theorem Tryz.xKindPP (w:World):((ReflectliteType.abiMethod fun t=>Functor.map (fun a:Nat=>Value.int IntKind.u8 (a:Int)) (Rtype.kind t)) #[.pointer (some ⟨19,158,none⟩)]).run prog w= .ok (.int .u8 22) w:=zk
theorem Tryz.xKindP (w:World):((ReflectliteType.abiMethod fun t=>Functor.map (fun a:Nat=>Value.int IntKind.u8 (a:Int)) (Rtype.kind t)) #[.pointer (some ⟨19,72,none⟩)]).run prog w= .ok (.int .u8 22) w:=zk
theorem Tryz.xIsNilPP (a p:Addr) (W:World) (ha:W.cell? a=some (.pointer (some p))):
  (ReflectliteValue.method (ReflectliteValue.valueError "reflectlite.Value.IsNil" 0) ReflectliteValue.isNil #[.agg #[.pointer (some ⟨19,158,none⟩),.pointer (some a),.int .u64 150]]).run prog W= .ok (.bool false) W:=by
 rw [show (ReflectliteValue.method (ReflectliteValue.valueError "reflectlite.Value.IsNil" 0) ReflectliteValue.isNil #[.agg #[.pointer (some ⟨19,158,none⟩),.pointer (some a),.int .u64 150]]).run prog W=(ReflectliteValue.isNil 158 a 150 22).run prog W by kernel_rfl]
 simp [ReflectliteValue.isNil,loadVar,isAgg,underlying,underlying158,ha,Result.andThen]
theorem Tryz.xMethodElem (h:Value) (w:World):(Go.method 580 306 (.agg #[h]) "Elem").run prog w= .ok (408,.agg #[h]) w:=zk
theorem Tryz.xMethodImplements (h:Value) (w:World):(Go.method 580 306 (.agg #[h]) "Implements").run prog w= .ok (409,.agg #[h]) w:=zk
theorem Tryz.xMethodAssignableTo (h:Value) (w:World):(Go.method 580 306 (.agg #[h]) "AssignableTo").run prog w= .ok (406,.agg #[h]) w:=zk
theorem Tryz.xElemPP (w:World):(ReflectliteType.method ReflectliteType.elem #[.agg #[.pointer (some ⟨19,158,none⟩)]]).run prog w= .ok (.iface 306 (.agg #[.pointer (some ⟨19,72,none⟩)])) w:=zk
theorem Tryz.xImplementsP (w:World):(ReflectliteType.relation "Implements" ReflectliteType.implements_ #[.agg #[.pointer (some ⟨19,72,none⟩)],.iface 306 (.agg #[.pointer (some ⟨19,36,none⟩)])]).run prog w= .ok (.bool true) w:=zk
theorem Tryz.xTypeOfS (v:Value) (w:World):(ReflectliteType.typeOf #[.iface 450 v]).run prog w= .ok (.iface 306 (.agg #[.pointer (some ⟨19,450,none⟩)])) w:=zk
theorem Tryz.xAssignableS (w:World):(ReflectliteType.relation "AssignableTo" ReflectliteType.assignableTo #[.agg #[.pointer (some ⟨19,450,none⟩)],.iface 306 (.agg #[.pointer (some ⟨19,72,none⟩)])]).run prog w= .ok (.bool false) w:=zk
theorem Tryz.xNoAsS (v:Value) (xT:TypeId) (w:World):(Instr.typeAssert (.iface 450 v) xT 310 true).run prog w= .ok (.tuple #[.nilIface,.bool false]) w:=run_typeAssert_lacksB underlying310 zk zk v xT w
theorem Tryz.xNoIsS (v:Value) (xT:TypeId) (w:World):(Instr.typeAssert (.iface 450 v) xT 317 true).run prog w= .ok (.tuple #[.nilIface,.bool false]) w:=run_typeAssert_lacksB underlying317 zk zk v xT w
theorem Tryz.xNoUnwrapS (v:Value) (xT:TypeId) (w:World):(Instr.typeAssert (.iface 450 v) xT 313 true).run prog w= .ok (.tuple #[.nilIface,.bool false]) w:=run_typeAssert_lacksB underlying313 zk zk v xT w
theorem Tryz.xNoUnwrapsS (v:Value) (xT:TypeId) (w:World):(Instr.typeAssert (.iface 450 v) xT 315 true).run prog w= .ok (.tuple #[.nilIface,.bool false]) w:=run_typeAssert_lacksB underlying315 zk zk v xT w
def Ow:Array Value->Sem Value:=ReflectliteType.method fun t=>do Rtype.noPackHeld "Comparable" t;pure (.bool (<-typeInfo t).comparable)
theorem Tryz.xComparable (w:World):(Ow #[.agg #[.pointer (some ⟨19,450,none⟩)]]).run prog w= .ok (.bool true) w:=zk
theorem Tryz.xMethodComparable (v:Value) (w:World):(Go.method 580 306 v "Comparable").run prog w= .ok (407,v) w:=zk
theorem Tryz.xComp:(prog.info? 450).map (·.comparable)=some true:=zk
theorem Tryz.xSize:(prog.info? 468).map (·.size)=some 1:=zk
end Go.Proofs.YtebpcnkdhgnghaaGreatDoor
end
section
namespace Go.Proofs.YtebpcnkdhgnghaaGreatDoor
open Go.Proofs.Tryz
open Go.RowKit Go.Extern.Stop Go.Stop Go.Extern
theorem Ot (a t:Addr) (w:World) (hg:w.cell? ⟨12,0,none⟩=some (.iface 306 (.agg #[.pointer (some ⟨19,36,none⟩)]))):
  Calls prog 74 #[.iface 450 (.pointer (some a)),.iface 158 (.pointer (some t))] w fun ev w'=>ev= .returned (.bool false)/\Below w.heap.size w w':=by
 have h6:= @run_callFunc_extern prog 141 _ (fun args=>ReflectliteValue.unpack (args.getD 0 (.tuple #[]))) func141 zk zk zk zk
 have h7:= @run_callFunc_extern prog 142 _ (ReflectliteValue.methodAny (ReflectliteValue.valueError "reflectlite.Value.Type" 0) (fun t _ _ _=>ReflectliteType.toType t)) func142 zk zk zk zk
 have h8:= @run_callFunc_extern prog 143 _ (ReflectliteValue.method (ReflectliteValue.valueError "reflectlite.Value.IsNil" 0) ReflectliteValue.isNil) func143 zk zk zk zk
 have h27:= @run_callFunc_extern prog 393 _ (ReflectliteType.abiMethod fun t=>do pure (.int .u8 (<-Rtype.kind t))) func393 zk zk zk zk
 have h37:= @run_callFunc_extern prog 408 _ (ReflectliteType.method ReflectliteType.elem) func408 zk zk zk zk
 have h38:= @run_callFunc_extern prog 409 _ (ReflectliteType.relation "Implements" ReflectliteType.implements_) func409 zk zk zk zk
 have h10:= @run_callFunc_extern prog 145 _ ReflectliteType.typeOf func145 zk zk zk zk
 have h35:= @run_callFunc_extern prog 406 _ (ReflectliteType.relation "AssignableTo" ReflectliteType.assignableTo) func406 zk zk zk zk
 have tO:=Tryz.xTypeOfS
 have mA:=Tryz.xMethodAssignableTo
 have a25:=Tryz.xAssignableS
 have f6:=Tryz.xValueOfPP
 have f7:=Tryz.xTypePP
 have mK:=Tryz.xMethodKind
 have mE:=Tryz.xMethodElem
 have mI:=Tryz.xMethodImplements
 have k27:=Tryz.xKindPP
 have k25:=Tryz.xKindP
 have e27:=Tryz.xElemPP
 have i25:=Tryz.xImplementsP
 have nA:=Tryz.xNoAsS
 have uE:=Tryz.xNoUnwrapS
 have vE:=Tryz.xNoUnwrapsS
 have n8:=Tryz.xIsNilPP ⟨w.heap.size,0,none⟩ t ((w.alloc (.cells #[.pointer (some t)] 158)).alloc (.cells #[.pointer (some ⟨19,158,none⟩),.pointer (some ⟨w.heap.size,0,none⟩),.int .u64 150] 240)) zq
 have hlt:12<w.heap.size:=by
  rcases ue 12 w.heap.size with h | h
  ·exact h
  simp [World.cell?,uK h] at hg
 have hg2:((w.alloc (.cells #[.pointer (some t)] 158)).alloc (.cells #[.pointer (some ⟨19,158,none⟩),.pointer (some ⟨w.heap.size,0,none⟩),.int .u64 150] 240)).cell? ⟨12,0,none⟩=some (.iface 306 (.agg #[.pointer (some ⟨19,36,none⟩)])):=by
  rw [uq _ _ ⟨12,0,none⟩ zl,uq _ _ ⟨12,0,none⟩ hlt];exact hg
 go_enter func74,ntmps74
 go_wp2
 refine wp_loop_rounds 1 ?_
 rw [rounds_succ]
 go_wp2
 go_ret
 exact ⟨rfl,((zh _ _).alloc zq _).alloc zl _⟩
end Go.Proofs.YtebpcnkdhgnghaaGreatDoor
end
section
namespace Go.Proofs.YtebpcnkdhgnghaaGreatDoor
open Go.Proofs.Tryz
open Go.RowKit Go.Extern.Stop Go.Stop Go.Extern
theorem LX (a:Addr) (w:World):
  Calls prog 75 #[.iface 450 (.pointer (some a)),.iface 450 (.pointer (some a))] w fun e w'=>e= .returned (.bool true)/\w'=w:=by
 obtain ⟨i,hi,hcmp⟩:=uL.1 Tryz.xComp
 obtain ⟨j,hj,hjs⟩:=uL.1 Tryz.xSize
 have h8:= @run_callFunc_extern prog 145 _ Extern.ReflectliteType.typeOf func145 zk zk zk zk
 have h32:= @run_callFunc_extern prog 407 _ Ow func407 zk zk zk zk
 have tT:=Tryz.xTypeOfS
 have cT:=Tryz.xComparable
 have mR:=Tryz.xMethodComparable
 have heq:=run_eql_iface_ptr_same (P:=prog) w a underlying36 underlying450 hi hcmp hj
 go_enter func75,ntmps75
 go_wp2
 refine wp_loop_rounds 1 ?_
 rw [rounds_succ]
 exact ka9
theorem Ic (a b:Addr) (ca cb:Array Value) (ta tb:TypeId) (w:World) (hne:a≠b) (ha:w.heap[a.block]? =some (.cells ca ta (0,0))) (hb:w.heap[b.block]? =some (.cells cb tb (0,0))):
  Calls prog 75 #[.iface 450 (.pointer (some a)),.iface 450 (.pointer (some b))] w fun e w'=>e= .returned (.bool false)/\w'=w:=by
 obtain ⟨i,hi,hcmp⟩:=uL.1 Tryz.xComp
 obtain ⟨j,hj,hjs⟩:=uL.1 Tryz.xSize
 have h8:= @run_callFunc_extern prog 145 _ Extern.ReflectliteType.typeOf func145 zk zk zk zk
 have h32:= @run_callFunc_extern prog 407 _ Ow func407 zk zk zk zk
 have tT:=Tryz.xTypeOfS
 have cT:=Tryz.xComparable
 have mR:=Tryz.xMethodComparable
 have nE:=Tryz.xNoIsS
 have uE:=Tryz.xNoUnwrapS
 have vE:=Tryz.xNoUnwrapsS
 have heq:=run_eql_iface_ptr_other (P:=prog) w underlying36 underlying450 hi hcmp hj (by rw [hjs];decide) hne ha hb
 go_enter func75,ntmps75
 go_wp2
 refine wp_loop_rounds 1 ?_
 rw [rounds_succ]
 exact ka9
end Go.Proofs.YtebpcnkdhgnghaaGreatDoor
end
section
namespace Go.Proofs.YtebpcnkdhgnghaaGreatDoor
open Go.Proofs.Tryz
open Go.RowKit Go.Extern.Stop Go.Stop Go.Extern
variable {B:Nat} {ad:Nat→Addr} {w w':World}
structure Errs (B:Nat) (ad:Nat->Addr) (w:World):Prop where
 c0:w.cell? ⟨3,0,none⟩=some (.iface 450 (.pointer (some (ad 0))))
 c1:w.cell? ⟨0,0,none⟩=some (.iface 450 (.pointer (some (ad 1))))
 c2:w.cell? ⟨4,0,none⟩=some (.iface 450 (.pointer (some (ad 2))))
 c3:w.cell? ⟨5,0,none⟩=some (.iface 450 (.pointer (some (ad 3))))
 c4:w.cell? ⟨6,0,none⟩=some (.iface 450 (.pointer (some (ad 4))))
 c5:w.cell? ⟨1,0,none⟩=some (.iface 450 (.pointer (some (ad 5))))
 c6:w.cell? ⟨7,0,none⟩=some (.iface 450 (.pointer (some (ad 6))))
 c7:w.cell? ⟨2,0,none⟩=some (.iface 450 (.pointer (some (ad 7))))
 c8:w.cell? ⟨8,0,none⟩=some (.iface 450 (.pointer (some (ad 8))))
 c9:w.cell? ⟨9,0,none⟩=some (.iface 450 (.pointer (some (ad 9))))
 c10:w.cell? ⟨10,0,none⟩=some (.iface 450 (.pointer (some (ad 10))))
 c11:w.cell? ⟨11,0,none⟩=some (.iface 450 (.pointer (some (ad 11))))
 et:w.cell? ⟨12,0,none⟩=some (.iface 306 (.agg #[.pointer (some ⟨19,36,none⟩)]))
 lt:∀i,i<12->(ad i).block<B
 row:∀i,i<12->∃c t,w.heap[(ad i).block]? =some (.cells c t (0,0))
 ne:∀i j,i<12->j<12->i≠j->ad i≠ad j
 big:13<=B
 size:B<=w.heap.size
theorem Errs.mono (h:Errs B ad w) (hb:Below B w w'):Errs B ad w':=by
 have hB:=h.big
 have g:∀k v,k<13->w.cell? ⟨k,0,none⟩=some v->w'.cell? ⟨k,0,none⟩=some v:=fun k v hk hv=>by
  rw [hb.cell (p:=⟨k,0,none⟩) (jW hk hB)];exact hv
 refine ⟨g _ _ zo h.c0,g _ _ zo h.c1,g _ _ zo h.c2,g _ _ zo h.c3,g _ _ zo h.c4,g _ _ zo h.c5,g _ _ zo h.c6,g _ _ zo h.c7,g _ _ zo h.c8,g _ _ zo h.c9,g _ _ zo h.c10,g _ _ zo h.c11,g _ _ zo h.et,h.lt,fun i hi=> ?_,h.ne,h.big,jM h.size hb.size⟩
 obtain ⟨c,t,e⟩:=h.row i hi
 exact ⟨c,t,by rw [hb.block _ (h.lt i hi)];exact e⟩
theorem Errs.later (h:Errs B ad w) (hb:Below w.heap.size w w'):Errs B ad w':=h.mono (hb.mono h.size)
theorem Hq (w:World):Calls prog 37 #[.nilIface] w fun e w'=>e= .returned (.tuple #[.int .i64 0,.int .i64 (-1)])/\w'=w:=by
 go_enter func37,ntmps37
 go_wp2
 go_ret2
 exact ki0
def iK (k:Nat):Int:=if k<12 then (k:Int)+1 else -1
theorem Mr (ad:Nat->Addr) (j:Nat) (hj:j<12):(#[Value.iface 450 (.pointer (some (ad 0))),.iface 450 (.pointer (some (ad 1))),.iface 450 (.pointer (some (ad 2))),.iface 450 (.pointer (some (ad 3))),.iface 450 (.pointer (some (ad 4))),.iface 450 (.pointer (some (ad 5))),.iface 450 (.pointer (some (ad 6))),.iface 450 (.pointer (some (ad 7))),.iface 450 (.pointer (some (ad 8))),.iface 450 (.pointer (some (ad 9))),.iface 450 (.pointer (some (ad 10))),.iface 450 (.pointer (some (ad 11)))])[j]? =some (.iface 450 (.pointer (some (ad j)))):=by
 match j,hj with
 | 0,_=>rfl
 | 1,_=>rfl
 | 2,_=>rfl
 | 3,_=>rfl
 | 4,_=>rfl
 | 5,_=>rfl
 | 6,_=>rfl
 | 7,_=>rfl
 | 8,_=>rfl
 | 9,_=>rfl
 | 10,_=>rfl
 | 11,_=>rfl
 | n+12,h=>omega
theorem Bj (w:World) (h:Errs B ad w) (u:TypeId) (x:Value) (k:Nat) (hk:k<=12)
  (hAs:∀(t:Addr) (w1:World),Errs B ad w1->Calls prog 74 #[.iface u x,.iface 158 (.pointer (some t))] w1 fun e w'=>e= .returned (.bool false)/\Below w1.heap.size w1 w')
  (hIs:∀w1,Errs B ad w1->Below w.heap.size w w1->∀j,j<12->j<=k->Calls prog 75 #[.iface u x,.iface 450 (.pointer (some (ad j)))] w1 fun e w'=>e= .returned (.bool (decide (j=k)))/\w'=w1):
  Calls prog 37 #[.iface u x] w fun e w'=>e= .returned (.tuple #[.int .i64 (iK k),.int .i64 (-1)])/\Below w.heap.size w w':=by
 have hsz:=h.size
 have h1:Errs B ad (w.alloc (.cells #[.pointer none] 72)):=h.later (zh _ _)
 go_enter func37,ntmps37
 go_wp2_with fail
 refine (hAs _ _ h1).mono ?_
 rintro e w1 ⟨rfl,hb1⟩
 have H1:=h1.later hb1
 have B1:Below w.heap.size w w1:=(zh _ _).trans (hb1.mono zq)
 have z1:=hb1.size
 simp at z1
 clear hb1 h1 h hAs
 have H2:=fun o=>H1.later ((jN _ _).alloc zg o)
 obtain ⟨c0,c1,c2,c3,c4,c5,c6,c7,c8,c9,c10,c11,et,lt,row,ne,big,size⟩:=H1
 clear et row ne lt
 have HI:Hid (∀w1,Errs B ad w1->Below w.heap.size w w1->∀j,j<12->j<=k->Calls prog 75 #[.iface u x,.iface 450 (.pointer (some (ad j)))] w1 fun e w'=>e= .returned (.bool (decide (j=k)))/\w'=w1):=hIs
 clear hIs
 go_wp2_with fail
 have hcell:∀j,j<12->(w1.alloc (.cells #[.iface 450 (.pointer (some (ad 0))),.iface 450 (.pointer (some (ad 1))),.iface 450 (.pointer (some (ad 2))),.iface 450 (.pointer (some (ad 3))),.iface 450 (.pointer (some (ad 4))),.iface 450 (.pointer (some (ad 5))),.iface 450 (.pointer (some (ad 6))),.iface 450 (.pointer (some (ad 7))),.iface 450 (.pointer (some (ad 8))),.iface 450 (.pointer (some (ad 9))),.iface 450 (.pointer (some (ad 10))),.iface 450 (.pointer (some (ad 11)))] 36)).cell? ⟨w1.heap.size,j,none⟩=some (.iface 450 (.pointer (some (ad j)))):=
  fun j hj=>by rw [World.cell?_alloc_at _ _ _ _ rfl];exact Mr ad j hj
 have H3:=H2 (.cells #[.iface 450 (.pointer (some (ad 0))),.iface 450 (.pointer (some (ad 1))),.iface 450 (.pointer (some (ad 2))),.iface 450 (.pointer (some (ad 3))),.iface 450 (.pointer (some (ad 4))),.iface 450 (.pointer (some (ad 5))),.iface 450 (.pointer (some (ad 6))),.iface 450 (.pointer (some (ad 7))),.iface 450 (.pointer (some (ad 8))),.iface 450 (.pointer (some (ad 9))),.iface 450 (.pointer (some (ad 10))),.iface 450 (.pointer (some (ad 11)))] 36)
 have B3:=B1.alloc zj (.cells #[.iface 450 (.pointer (some (ad 0))),.iface 450 (.pointer (some (ad 1))),.iface 450 (.pointer (some (ad 2))),.iface 450 (.pointer (some (ad 3))),.iface 450 (.pointer (some (ad 4))),.iface 450 (.pointer (some (ad 5))),.iface 450 (.pointer (some (ad 6))),.iface 450 (.pointer (some (ad 7))),.iface 450 (.pointer (some (ad 8))),.iface 450 (.pointer (some (ad 9))),.iface 450 (.pointer (some (ad 10))),.iface 450 (.pointer (some (ad 11)))] 36)
 generalize w1.alloc (.cells #[.iface 450 (.pointer (some (ad 0))),.iface 450 (.pointer (some (ad 1))),.iface 450 (.pointer (some (ad 2))),.iface 450 (.pointer (some (ad 3))),.iface 450 (.pointer (some (ad 4))),.iface 450 (.pointer (some (ad 5))),.iface 450 (.pointer (some (ad 6))),.iface 450 (.pointer (some (ad 7))),.iface 450 (.pointer (some (ad 8))),.iface 450 (.pointer (some (ad 9))),.iface 450 (.pointer (some (ad 10))),.iface 450 (.pointer (some (ad 11)))] 36)=W2 at hcell H3 B3 |-
 clear c0 c1 c2 c3 c4 c5 c6 c7 c8 c9 c10 c11 H2 B1 big size
 generalize w1.heap.size=b1 at hcell z1 |-
 clear z1
 have HI':=HI.o W2 H3 B3
 have HJ:Hid (∀j,j<12->j<=k->Calls prog 75 #[.iface u x,.iface 450 (.pointer (some (ad j)))] W2 fun e w'=>e= .returned (.bool (decide (j=k)))/\w'=W2):=HI'
 clear HI HI' H3
 go_loop [3,30] (fun at' i=>∃j:Nat,j<=k/\at'= .int .i64 (-1)/\i= .int .i64 j) (fun _ i=>12 - (intOf i).toNat)
 case atStart=>exact ⟨0,jX _,rfl,rfl⟩
 case round=>
  obtain ⟨j,hj,rfl,rfl⟩:=hrel
  by_cases h12:j<12
  ·have hc:=hcell j h12
   have hd:decide ((j:Int)<12)=true:=zl
   go_wp2_with fail
   refine (HJ.o j h12 hj).mono ?_
   rintro e w' ⟨rfl,hw⟩
   subst hw
   by_cases hjk:j=k
   ·have hkc:iK k=(j:Int)+1:=by unfold iK;rw [if_pos zj,hjk]
    have HK:Hid (iK k=(j:Int)+1):=hkc
    rw [decide_eq_true hjk]
    clear hkc hjk
    go_wp2
    go_ret2
    exact ⟨by rw [HK.o];rfl,B3⟩
   rw [decide_eq_false hjk]
   go_wp2
   go_round
   case rel=>exact ⟨j+1,zj,rfl,zI⟩
   case measure=>simp [intOf];omega
  have hd:decide ((j:Int)<12)=false:=zl
  have hkc:iK k= -1:=by unfold iK;rw [if_neg zj]
  have HK:Hid (iK k= -1):=hkc
  clear hkc
  go_wp2
  go_ret2
  exact ⟨by rw [HK.o];rfl,B3⟩
theorem FA (w:World) (h:Errs B ad w) (k:Nat) (hk:k<12):
  Calls prog 37 #[.iface 450 (.pointer (some (ad k)))] w fun e w'=>e= .returned (.tuple #[.int .i64 (iK k),.int .i64 (-1)])/\Below w.heap.size w w':=by
 refine Bj w h _ _ k (uQ hk) (fun t w1 h1=>Ot (ad k) t w1 h1.et) fun w1 hw1 _ j hj _=> ?_
 by_cases hjk:j=k
 ·subst hjk
  rw [decide_eq_true rfl]
  exact LX (ad j) w1
 rw [decide_eq_false hjk]
 obtain ⟨ca,ta,ea⟩:=hw1.row k hk
 obtain ⟨cb,tb,eb⟩:=hw1.row j hj
 exact Ic (ad k) (ad j) ca cb ta tb w1 (hw1.ne k j hk hj (fun e=>hjk e.symm)) ea eb
end Go.Proofs.YtebpcnkdhgnghaaGreatDoor
end
section
namespace Go.Proofs.YtebpcnkdhgnghaaGreatDoor
theorem pl {P:Program} {W:World} {ti tp te ts:TypeId} {ms:Array (String×TypeId)} {nm:String} {f:Field}
  (hi:P.underlying ti=some (.interface ms)) (hrow:∀u,P.typeName? 3 u=some nm->u=tp) (hp:P.underlying tp=some (.pointer te)) (he:P.underlying te=some (.struct #[f])) (hft:f.type=ts) (hfo:f.offset=0) (hs:P.underlying ts=some .string) (hc:P.cellsOf te=1) (hcs:P.cellsOf ts=1):
  ∀(l:List (String×Nat×List UInt8)) (ps:List MemPlace),
   (∀x∈l,P.globalNamed x.1=some x.2.1/\(P.globals[x.2.1]?).map (·.type)=some ti)->
   DataW.LaidVars P W (l.map fun x=>(x.1,.iface nm (.ptr (.agg [.lit (.string x.2.2)])))) ps->ps.Nodup->
   (∀b off,MemPlace.cell b off∈ps->(∃c t,W.heap[b]? =some (.cells c t (0,0)))/\∀u v,W.cell? ⟨b,off,none⟩=some (.iface u v)->Value.okWide P W .any 0 u v)->
   ∃az:List Addr,az.length=l.length/\(∀(i:Nat) (x:String×Nat×List UInt8) (a:Addr),l[i]? =some x->az[i]? =some a->W.cell? ⟨x.2.1,0,none⟩=some (.iface tp (.pointer (some a))))/\
    (∀a∈az,(∃c t,W.heap[a.block]? =some (.cells c t (0,0)))/\MemPlace.cell a.block a.off∈ps)/\az.Nodup
 | [],ps,_,_,_,_=>⟨[],rfl,zq,zq,uS⟩
 | x::l,ps,hx,hv,hnd,hr=>by
  obtain ⟨g,t,cs,fuel,p,q,hg,ht,hvar,hd,hq,e⟩:=hv
  subst e
  obtain ⟨hg',ht'⟩:=hx x (vr)
  obtain rfl:=Option.some.inj (hg'.symm.trans hg)
  obtain rfl:=Option.some.inj (ht'.symm.trans ht)
  obtain ⟨l0⟩:=cs
  have ok0:∀u v,l0= [.iface u v]->Value.okWide P W .any 0 u v:=fun u v e=>by
   subst e
   exact (hr x.2.1 0 (by simp [MemPlace.row])).2 u v (by simpa using World.var?_cell hg hvar 0)
  obtain ⟨a0,s0,rfl,hc0,hs0,hz0,rfl⟩:=errorString_of_trod hi hrow hp he hft hfo hs hc hcs hd ok0
  have hnd2:=vM.1 hnd
  obtain ⟨az,hl,h1,h2,h3⟩:=pl hi hrow hp he hft hfo hs hc hcs l q (fun y hy=>hx y (vf _ hy)) hq hnd2.2.1 (fun b off hm=>hr b off (vB _ hm))
  have hm0:MemPlace.cell a0.block a0.off∈MemPlace.row ⟨x.2.1,0,none⟩ (#[Value.iface tp (.pointer (some a0))]:Array Value).size++MemPlace.row a0 1:=vB _ (by simp [MemPlace.row])
  refine ⟨a0::az,by simp [hl],?_,?_,?_⟩
  ·intro i y a hy ha
   cases i with
   | zero=>
    simp only [List.getElem?_cons_zero,Option.some.injEq] at hy ha
    subst hy ha
    simpa using World.var?_cell hg hvar 0
   | succ i=>
    simp only [List.getElem?_cons_succ] at hy ha
    exact h1 i y a hy ha
  ·intro a ha
   rcases jQ.1 ha with rfl | ha
   ·exact ⟨(hr _ _ (vg _ hm0)).1,vg _ hm0⟩
   exact ⟨(h2 a ha).1,vB _ (h2 a ha).2⟩
  refine List.nodup_cons.2 ⟨fun hin=> ?_,h3⟩
  exact hnd2.2.2 _ hm0 _ (h2 a0 hin).2 rfl
theorem Tryz.yStar: "*" ++ "errors.errorString" = "*errors.errorString" :=zo
theorem Tryz.yRow (u:TypeId) (h:Tryz.prog.typeName? 3 u=some "*errors.errorString"):u=450:=
 typeName_ptr_named (nm:= "errors.errorString") (by rw [Tryz.yStar];kernel_rfl) zk zo u (by rw [Tryz.yStar];exact h)
theorem Tryz.yCellsS:Tryz.prog.cellsOf 468=1:=zk
theorem Tryz.yCellsString:Tryz.prog.cellsOf 9=1:=zk
end Go.Proofs.YtebpcnkdhgnghaaGreatDoor
end
section
namespace Go.Proofs.YtebpcnkdhgnghaaGreatDoor
