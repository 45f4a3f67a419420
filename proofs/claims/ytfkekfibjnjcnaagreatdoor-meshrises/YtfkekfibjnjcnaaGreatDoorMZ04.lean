import Derived.Test.YtfkekfibjnjcnaaGreatDoorMacA
import Derived.Shelf.Strings.OnBuilder
import Derived.Shelf.Small.Strs
import Derived.Shelf.Strconv.Itoa3
import Derived.Shelf.Strings.SplitShaped
import Derived.WalkSpells
import Derived.Lib.AppendIntMem
import Derived.Lib.ItoaLen
import Derived.Shelf.Strings.Cut
import Derived.Shelf.Strings.Repeat
import Derived.Deep.RegionHeld3
import Derived.Test.YtfkekfibjnjcnaaGreatDoorRows
import Derived.LaidMore
set_option linter.unusedSimpArgs false
set_option linter.unusedVariables false
set_option maxRecDepth 100000
set_option maxHeartbeats 64000000
section
namespace Go.Proofs
open Go.Proofs.Tryz
open Go.Shelf
def Tryz.lays156_ren:Go.Shelf.Ren:=⟨fun | 156=>40 | 165=>62 | 166=>63 | 169=>64 | 240=>105 | 241=>106 | 276=>148 | 277=>149 | n=>n,fun | 31=>91 | 9=>9 | 3=>3 | 4=>4 | 0=>0 | 20=>20 | 72=>125 | 76=>117 | 70=>122 | 37=>123 | 75=>27 | 127=>182 | 164=>231 | 5=>5 | 80=>58 | n=>n,fun | n=>n⟩
theorem Tryz.lays156:Go.Proofs.Lays.n156 prog Tryz.lays156_ren:={
 mixed:=zk
 f156:=func40.trans (congrArg some zk)
 f165:=func62.trans (congrArg some zk)
 f166:=func63.trans (congrArg some zk)
 f169:=func64.trans (congrArg some zk)
 f240:=func105.trans (congrArg some zk)
 f241:=func106.trans (congrArg some zk)
 f276:=func148.trans (congrArg some zk)
 f277:=func149.trans (congrArg some zk)
 t0:=underlying0
 a0:=isAgg0
 z0:=sizeOf0
 v0:=zeroValue0
 t3:=underlying3
 a3:=isAgg3
 z3:=sizeOf3
 v3:=zeroValue3
 t4:=underlying4
 a4:=isAgg4
 z4:=sizeOf4
 v4:=zeroValue4
 t9:=underlying9
 a9:=isAgg9
 z9:=sizeOf9
 v9:=zeroValue9
 t20:=underlying20
 a20:=isAgg20
 z20:=sizeOf20
 v20:=zeroValue20
 t31:=underlying91
 a31:=isAgg91
 z31:=sizeOf91
 v31:=zeroValue91
 t37:=underlying123
 a37:=isAgg123
 z37:=sizeOf123
 v37:=zeroValue123
 t70:=underlying122
 a70:=isAgg122
 z70:=sizeOf122
 v70:=zeroValue122
 t72:=underlying125
 a72:=isAgg125
 z72:=sizeOf125
 v72:=zeroValue125
 t75:=underlying27
 a75:=isAgg27
 z75:=sizeOf27
 v75:=zeroValue27
 t76:=underlying117
 a76:=isAgg117
 z76:=sizeOf117
 v76:=zeroValue117
 t127:=underlying182
 a127:=isAgg182
 z127:=sizeOf182
 v127:=zeroValue182
 t164:=underlying231
 a164:=isAgg231
 z164:=sizeOf231
 v164:=zeroValue231}
theorem Tryz.Builder_Extra_156:Builder.Extra prog Tryz.lays156_ren:={
 sizeBuilder:=zk
 liesBuilder:=zk
 t5:=underlying5
 a5:=isAgg5
 z5:=sizeOf5
 v5:=zeroValue5
 infoByte:=zk
 cellsByte:=zk
 sizeByte:=zk
 neB5:=zt}
open Go.RowKit in
theorem Tryz.strings_Join_none (a:Option Addr) (c:Nat) (sep:ByteArray) (w:World):
  Calls prog 40 #[.slice a 0 c,.string sep] w fun e w'=>e= .returned (.string ⟨#[]⟩)/\w'=w:=Any.strings_Join_none Tryz.lays156 Tryz.Builder_Extra_156 a c sep w
open Go.RowKit in
theorem Tryz.strings_Join (bk o c:Nat) (xs:List ByteArray) (sep:ByteArray) (w:World) (hcells:∀(j:Nat) x,xs[j]? =some x->w.cell? ⟨bk,o+j,none⟩=some (.string x)) (hbk:bk<w.heap.size) (hN:xs.length<=140737488355328) (hcap:xs.length<=c) (hlen:(Lib.join (xs.map (·.data.toList)) sep.data.toList).length<=140737488355328):
  Calls prog 40 #[.slice (some ⟨bk,o,none⟩) xs.length c,.string sep] w fun e w'=>e= .returned (.string ⟨(Lib.join (xs.map (·.data.toList)) sep.data.toList).toArray⟩)/\Below w.heap.size w w':=Any.strings_Join Tryz.lays156 Tryz.Builder_Extra_156 bk o c xs sep w hcells hbk hN hcap hlen
def Tryz.lays137_ren:Go.Shelf.Ren:=⟨fun | 137=>283 | 217=>278 | 266=>285 | n=>n,fun | 9=>9 | 5=>5 | 3=>3 | n=>n,fun | n=>n⟩
theorem Tryz.lays137:Go.Proofs.Lays.n137 prog Tryz.lays137_ren:={
 mixed:=zk
 f137:=func283.trans (congrArg some zk)
 f217:=func278.trans (congrArg some zk)
 f266:=func285.trans (congrArg some zk)
 t3:=underlying3
 a3:=isAgg3
 z3:=sizeOf3
 v3:=zeroValue3
 t5:=underlying5
 a5:=isAgg5
 z5:=sizeOf5
 v5:=zeroValue5
 t9:=underlying9
 a9:=isAgg9
 z9:=sizeOf9
 v9:=zeroValue9}
open Go.RowKit in
theorem Tryz.strings_IndexByte (s:ByteArray) (c:Int) (w:World):
  Calls prog 283 #[.string s,.int .u8 c] w fun e w'=>e= .returned (.int .i64 (Lib.indexByte s.data.toList c.toNat.toUInt8))/\w'=w:=Any.strings_IndexByte Tryz.lays137 s c w
def Tryz.laysM171_ren:Go.Shelf.Ren:=⟨fun | 171=>39 | 243=>61 | 246=>104 | 283=>144 | 284=>145 | 285=>146 | 286=>147 | 129=>162 | 317=>199 | 318=>200 | 319=>201 | 320=>202 | 337=>244 | 338=>245 | n=>n,fun | 3=>3 | 9=>9 | 2=>2 | 4=>4 | 171=>225 | 0=>0 | 53=>226 | 37=>123 | 5=>5 | 173=>229 | 212=>275 | 51=>244 | 20=>20 | 213=>276 | 46=>189 | 232=>326 | 233=>327 | n=>n,fun | 17=>9 | 18=>13 | 19=>14 | n=>n⟩
theorem Tryz.laysM171:Go.Proofs.LaysM.n171 prog Tryz.laysM171_ren:={
 mixed:=zk
 f129:=func162.trans (congrArg some zk)
 f171:=func39.trans (congrArg some zk)
 f243:=func61.trans (congrArg some zk)
 f246:=func104.trans (congrArg some zk)
 f283:=func144.trans (congrArg some zk)
 f284:=func145.trans (congrArg some zk)
 f285:=func146.trans (congrArg some zk)
 f286:=func147.trans (congrArg some zk)
 f317:=func199.trans (congrArg some zk)
 f318:=func200.trans (congrArg some zk)
 f319:=func201.trans (congrArg some zk)
 f320:=func202.trans (congrArg some zk)
 f337:=func244.trans (congrArg some zk)
 f338:=func245.trans (congrArg some zk)
 t0:=underlying0
 a0:=isAgg0
 z0:=sizeOf0
 v0:=zeroValue0
 t2:=underlying2
 a2:=isAgg2
 z2:=sizeOf2
 v2:=zeroValue2
 t3:=underlying3
 a3:=isAgg3
 z3:=sizeOf3
 v3:=zeroValue3
 t4:=underlying4
 a4:=isAgg4
 z4:=sizeOf4
 v4:=zeroValue4
 t5:=underlying5
 a5:=isAgg5
 z5:=sizeOf5
 v5:=zeroValue5
 t9:=underlying9
 a9:=isAgg9
 z9:=sizeOf9
 v9:=zeroValue9
 t20:=underlying20
 a20:=isAgg20
 z20:=sizeOf20
 v20:=zeroValue20
 t37:=underlying123
 a37:=isAgg123
 z37:=sizeOf123
 v37:=zeroValue123
 t46:=underlying189
 a46:=isAgg189
 z46:=sizeOf189
 v46:=zeroValue189
 t51:=underlying244
 a51:=isAgg244
 z51:=sizeOf244
 v51:=zeroValue244
 t53:=underlying226
 a53:=isAgg226
 z53:=sizeOf226
 v53:=zeroValue226
 t171:=underlying225
 a171:=isAgg225
 z171:=sizeOf225
 v171:=zeroValue225
 t173:=underlying229
 a173:=isAgg229
 z173:=sizeOf229
 v173:=zeroValue229
 t212:=underlying275
 a212:=isAgg275
 z212:=sizeOf275
 v212:=zeroValue275
 t213:=underlying276
 a213:=isAgg276
 z213:=sizeOf276
 t232:=underlying326
 a232:=isAgg326
 z232:=sizeOf326
 v232:=zeroValue326
 t233:=underlying327
 a233:=isAgg327
 z233:=sizeOf327
 v233:=zeroValue327
 g17:=zk
 g18:=zk
 g19:=zk
 i0:=zk
 i2:=zk
 i3:=zk
 i4:=zk
 i5:=zk
 i9:=zk
 i20:=zk
 i37:=zk
 i46:=zk
 i51:=zk
 i53:=zk
 i171:=zk
 i173:=zk
 i212:=zk
 i232:=zk
 i233:=zk
 m17:=zk
 m18:=zk
 m19:=zk}
open Go.RowKit Go.Sort Go.Lib in
theorem Tryz.strconv_Itoa (n:Int) (h0: -9223372036854775808<=n) (h1:n<=9223372036854775807) (w:World) (htab:Lib.TabIs prog w "internal/strconv.uint64pow10" .u64 Lib.pow10Tab):
  Calls prog 39 #[.int .i64 n] w fun e w'=>e= .returned (.string ⟨(Lib.itoa n).toArray⟩)/\∃k os,w'=grow (w.drewN k) os:=Any.strconv_Itoa Tryz.laysM171 n h0 h1 w htab
def Tryz.lays147_ren:Go.Shelf.Ren:=⟨fun | 147=>270 | 221=>282 | 268=>287 | 138=>288 | 143=>289 | 195=>290 | 197=>291 | 218=>292 | 219=>269 | 260=>293 | 217=>278 | 225=>279 | 224=>280 | 267=>281 | 266=>285 | 314=>286 | n=>n,fun | 9=>9 | 3=>3 | 31=>91 | 4=>4 | 0=>0 | 105=>344 | 21=>21 | 5=>5 | 46=>189 | 119=>346 | 139=>349 | 138=>348 | 146=>322 | 51=>244 | n=>n,fun | 1=>10 | 3=>15 | 4=>16 | n=>n⟩
theorem Tryz.lays147:Go.Proofs.Lays.n147 prog Tryz.lays147_ren:={
 mixed:=zk
 f138:=func288.trans (congrArg some zk)
 f143:=func289.trans (congrArg some zk)
 f147:=func270.trans (congrArg some zk)
 f195:=func290.trans (congrArg some zk)
 f197:=func291.trans (congrArg some zk)
 f217:=func278.trans (congrArg some zk)
 f218:=func292.trans (congrArg some zk)
 f219:=func269.trans (congrArg some zk)
 f221:=func282.trans (congrArg some zk)
 f224:=func280.trans (congrArg some zk)
 f225:=func279.trans (congrArg some zk)
 f260:=func293.trans (congrArg some zk)
 f266:=func285.trans (congrArg some zk)
 f267:=func281.trans (congrArg some zk)
 f268:=func287.trans (congrArg some zk)
 f314:=func286.trans (congrArg some zk)
 t0:=underlying0
 a0:=isAgg0
 z0:=sizeOf0
 v0:=zeroValue0
 t3:=underlying3
 a3:=isAgg3
 z3:=sizeOf3
 v3:=zeroValue3
 t4:=underlying4
 a4:=isAgg4
 z4:=sizeOf4
 v4:=zeroValue4
 t5:=underlying5
 a5:=isAgg5
 z5:=sizeOf5
 v5:=zeroValue5
 t9:=underlying9
 a9:=isAgg9
 z9:=sizeOf9
 v9:=zeroValue9
 t21:=underlying21
 a21:=isAgg21
 z21:=sizeOf21
 v21:=zeroValue21
 t31:=underlying91
 a31:=isAgg91
 z31:=sizeOf91
 v31:=zeroValue91
 t46:=underlying189
 a46:=isAgg189
 z46:=sizeOf189
 v46:=zeroValue189
 t51:=underlying244
 a51:=isAgg244
 z51:=sizeOf244
 v51:=zeroValue244
 t105:=underlying344
 a105:=isAgg344
 z105:=sizeOf344
 v105:=zeroValue344
 t119:=underlying346
 a119:=isAgg346
 z119:=sizeOf346
 t138:=underlying348
 a138:=isAgg348
 z138:=sizeOf348
 v138:=zeroValue348
 t139:=underlying349
 a139:=isAgg349
 z139:=sizeOf349
 v139:=zeroValue349
 t146:=underlying322
 a146:=isAgg322
 z146:=sizeOf322
 v146:=zeroValue322
 g1:=zk
 g3:=zk
 g4:=zk}
open Go.RowKit Go.Lib in
theorem Tryz.strings_SplitN (s sep:ByteArray) (n:Nat) (m:Int) (w:World) (hs:s.size<4294967281) (hm:w.cell? ⟨10,0,none⟩=some (.int .i64 m)) (h1:1<=sep.size) (hn:1<=n) (hn63:n<=9223372036854775807):
  Calls prog 270 #[.string s,.string sep,.int .i64 n] w fun e w'=>
   e= .returned (.slice (some ⟨w.heap.size,0,none⟩) (Lib.splitB sep 0 (min n (s.size+1) - 1) s).length (min n (s.size+1)))/\w'=w.alloc (.cells (Lib.cellsOf (Lib.splitB sep 0 (min n (s.size+1) - 1) s) (min n (s.size+1))) 9):=Any.strings_SplitN Tryz.lays147 zk s sep n m w hs hm h1 hn hn63
def Tryz.laysM147_ren:Go.Shelf.Ren:=⟨fun | 147=>270 | 221=>282 | 268=>287 | 138=>288 | 143=>289 | 195=>290 | 197=>291 | 218=>292 | 219=>269 | 260=>293 | 217=>278 | 225=>279 | 224=>280 | 267=>281 | 266=>285 | 314=>286 | n=>n,fun | 9=>9 | 3=>3 | 31=>91 | 4=>4 | 0=>0 | 105=>344 | 21=>21 | 5=>5 | 46=>189 | 119=>346 | 139=>349 | 138=>348 | 146=>322 | 51=>244 | n=>n,fun | 1=>10 | 3=>15 | 4=>16 | n=>n⟩
theorem Tryz.laysM147:Go.Proofs.LaysM.n147 prog Tryz.laysM147_ren:={
 mixed:=zk
 f138:=func288.trans (congrArg some zk)
 f143:=func289.trans (congrArg some zk)
 f147:=func270.trans (congrArg some zk)
 f195:=func290.trans (congrArg some zk)
 f197:=func291.trans (congrArg some zk)
 f217:=func278.trans (congrArg some zk)
 f218:=func292.trans (congrArg some zk)
 f219:=func269.trans (congrArg some zk)
 f221:=func282.trans (congrArg some zk)
 f224:=func280.trans (congrArg some zk)
 f225:=func279.trans (congrArg some zk)
 f260:=func293.trans (congrArg some zk)
 f266:=func285.trans (congrArg some zk)
 f267:=func281.trans (congrArg some zk)
 f268:=func287.trans (congrArg some zk)
 f314:=func286.trans (congrArg some zk)
 t0:=underlying0
 a0:=isAgg0
 z0:=sizeOf0
 v0:=zeroValue0
 t3:=underlying3
 a3:=isAgg3
 z3:=sizeOf3
 v3:=zeroValue3
 t4:=underlying4
 a4:=isAgg4
 z4:=sizeOf4
 v4:=zeroValue4
 t5:=underlying5
 a5:=isAgg5
 z5:=sizeOf5
 v5:=zeroValue5
 t9:=underlying9
 a9:=isAgg9
 z9:=sizeOf9
 v9:=zeroValue9
 t21:=underlying21
 a21:=isAgg21
 z21:=sizeOf21
 v21:=zeroValue21
 t31:=underlying91
 a31:=isAgg91
 z31:=sizeOf91
 v31:=zeroValue91
 t46:=underlying189
 a46:=isAgg189
 z46:=sizeOf189
 v46:=zeroValue189
 t51:=underlying244
 a51:=isAgg244
 z51:=sizeOf244
 v51:=zeroValue244
 t105:=underlying344
 a105:=isAgg344
 z105:=sizeOf344
 v105:=zeroValue344
 t119:=underlying346
 a119:=isAgg346
 z119:=sizeOf346
 t138:=underlying348
 a138:=isAgg348
 z138:=sizeOf348
 v138:=zeroValue348
 t139:=underlying349
 a139:=isAgg349
 z139:=sizeOf349
 v139:=zeroValue349
 t146:=underlying322
 a146:=isAgg322
 z146:=sizeOf322
 v146:=zeroValue322
 g1:=zk
 g3:=zk
 g4:=zk
 i0:=zk
 i3:=zk
 i4:=zk
 i5:=zk
 i9:=zk
 i21:=zk
 i31:=zk
 i46:=zk
 i51:=zk
 i105:=zk
 i138:=zk
 i139:=zk
 i146:=zk
 m1:=zk
 s1_3:=fun w h=>Go.Proofs.cell_of_shapedOpen_int (zero:= #[.int .i64 0]) (t:=3) h (of_decide_eq_true zk) zk rfl zk zk underlying3
 m3:=zk
 m4:=zk}
end Go.Proofs
end
section
namespace Go.Proofs.YtfkekfibjnjcnaaGreatDoor
open Go.RowKit
theorem itoa_any (n:Int) (h0: -9223372036854775808<=n) (h1:n<=9223372036854775807) (w:World) (htab:Lib.TabIs Tryz.prog w "internal/strconv.uint64pow10" .u64 Lib.pow10Tab):
  Calls Tryz.prog 39 #[.int .i64 n] w fun e w'=>e= .returned (.string ⟨(Lib.itoa n).toArray⟩)/\Below w.heap.size w w':=by
 refine (Tryz.strconv_Itoa n h0 h1 w htab).mono ?_
 rintro e w' ⟨rfl,k,os,rfl⟩
 exact ⟨rfl,Lib.below_grow _ _ zg _ _⟩
end Go.Proofs.YtfkekfibjnjcnaaGreatDoor
end
section
namespace Go.Proofs
open Go.Proofs.Tryz
open Go.Shelf
def Tryz.lays145_ren:Go.Shelf.Ren:=⟨fun | 145=>219 | 220=>251 | 219=>269 | 217=>278 | 225=>279 | 224=>280 | 267=>281 | 266=>285 | 314=>286 | n=>n,fun | 9=>9 | 4=>4 | 59=>290 | 3=>3 | 5=>5 | 46=>189 | 146=>322 | 51=>244 | n=>n,fun | 1=>10 | n=>n⟩
theorem Tryz.lays145:Go.Proofs.Lays.n145 prog Tryz.lays145_ren:={
 mixed:=zk
 f145:=func219.trans (congrArg some zk)
 f217:=func278.trans (congrArg some zk)
 f219:=func269.trans (congrArg some zk)
 f220:=func251.trans (congrArg some zk)
 f224:=func280.trans (congrArg some zk)
 f225:=func279.trans (congrArg some zk)
 f266:=func285.trans (congrArg some zk)
 f267:=func281.trans (congrArg some zk)
 f314:=func286.trans (congrArg some zk)
 t3:=underlying3
 a3:=isAgg3
 z3:=sizeOf3
 v3:=zeroValue3
 t4:=underlying4
 a4:=isAgg4
 z4:=sizeOf4
 v4:=zeroValue4
 t5:=underlying5
 a5:=isAgg5
 z5:=sizeOf5
 v5:=zeroValue5
 t9:=underlying9
 a9:=isAgg9
 z9:=sizeOf9
 v9:=zeroValue9
 t46:=underlying189
 a46:=isAgg189
 z46:=sizeOf189
 v46:=zeroValue189
 t51:=underlying244
 a51:=isAgg244
 z51:=sizeOf244
 v51:=zeroValue244
 t59:=underlying290
 a59:=isAgg290
 z59:=sizeOf290
 v59:=zeroValue290
 t146:=underlying322
 a146:=isAgg322
 z146:=sizeOf322
 v146:=zeroValue322
 g1:=zk}
open Go.RowKit Go.Lib in
theorem Tryz.strings_Cut (s sep:ByteArray) (m:Int) (w:World) (hs:s.size<4294967281) (hm:w.cell? ⟨10,0,none⟩=some (.int .i64 m)):
  Calls prog 219 #[.string s,.string sep] w fun e w'=>e= .returned (.tuple #[.string ⟨(Lib.cut s.data.toList sep.data.toList).1.toArray⟩,.string ⟨(Lib.cut s.data.toList sep.data.toList).2.1.toArray⟩,.bool (Lib.cut s.data.toList sep.data.toList).2.2])/\∃n,w'=w.drewN n:=Any.strings_Cut Tryz.lays145 s sep m w hs hm
def Tryz.lays99_ren:Go.Shelf.Ren:=⟨fun | 99=>221 | 206=>253 | n=>n,fun | 9=>9 | 4=>4 | 3=>3 | n=>n,fun | n=>n⟩
theorem Tryz.lays99:Go.Proofs.Lays.n99 prog Tryz.lays99_ren:={
 mixed:=zk
 f99:=func221.trans (congrArg some zk)
 f206:=func253.trans (congrArg some zk)
 t3:=underlying3
 a3:=isAgg3
 z3:=sizeOf3
 v3:=zeroValue3
 t4:=underlying4
 a4:=isAgg4
 z4:=sizeOf4
 v4:=zeroValue4
 t9:=underlying9
 a9:=isAgg9
 z9:=sizeOf9
 v9:=zeroValue9}
open Go.RowKit Go.Lib in
theorem Tryz.strings_HasPrefix (s p:ByteArray) (w:World):
  Calls prog 221 #[.string s,.string p] w fun e w'=>e= .returned (.bool (Lib.hasPrefix s.data.toList p.data.toList))/\w'=w:=Any.strings_HasPrefix Tryz.lays99 s p w
def Tryz.lays105_ren:Go.Shelf.Ren:=⟨fun | 105=>195 | 212=>239 | 99=>221 | 165=>62 | 166=>63 | 170=>240 | 169=>64 | 263=>266 | 264=>267 | 206=>253 | 240=>105 | 241=>106 | 276=>148 | 277=>149 | n=>n,fun | 9=>9 | 3=>3 | 4=>4 | 20=>20 | 0=>0 | 46=>189 | 109=>306 | 5=>5 | 72=>125 | 76=>117 | 51=>244 | 146=>322 | 53=>226 | 148=>324 | 70=>122 | 37=>123 | 75=>27 | 127=>182 | 164=>231 | 80=>58 | n=>n,fun | n=>n⟩
theorem Tryz.lays105:Go.Proofs.Lays.n105 prog Tryz.lays105_ren:={
 mixed:=zk
 f99:=func221.trans (congrArg some zk)
 f105:=func195.trans (congrArg some zk)
 f165:=func62.trans (congrArg some zk)
 f166:=func63.trans (congrArg some zk)
 f169:=func64.trans (congrArg some zk)
 f170:=func240.trans (congrArg some zk)
 f206:=func253.trans (congrArg some zk)
 f212:=func239.trans (congrArg some zk)
 f240:=func105.trans (congrArg some zk)
 f241:=func106.trans (congrArg some zk)
 f263:=func266.trans (congrArg some zk)
 f264:=func267.trans (congrArg some zk)
 f276:=func148.trans (congrArg some zk)
 f277:=func149.trans (congrArg some zk)
 t0:=underlying0
 a0:=isAgg0
 z0:=sizeOf0
 v0:=zeroValue0
 t3:=underlying3
 a3:=isAgg3
 z3:=sizeOf3
 v3:=zeroValue3
 t4:=underlying4
 a4:=isAgg4
 z4:=sizeOf4
 v4:=zeroValue4
 t5:=underlying5
 a5:=isAgg5
 z5:=sizeOf5
 v5:=zeroValue5
 t9:=underlying9
 a9:=isAgg9
 z9:=sizeOf9
 v9:=zeroValue9
 t20:=underlying20
 a20:=isAgg20
 z20:=sizeOf20
 v20:=zeroValue20
 t37:=underlying123
 a37:=isAgg123
 z37:=sizeOf123
 v37:=zeroValue123
 t46:=underlying189
 a46:=isAgg189
 z46:=sizeOf189
 v46:=zeroValue189
 t51:=underlying244
 a51:=isAgg244
 z51:=sizeOf244
 v51:=zeroValue244
 t53:=underlying226
 a53:=isAgg226
 z53:=sizeOf226
 v53:=zeroValue226
 t70:=underlying122
 a70:=isAgg122
 z70:=sizeOf122
 v70:=zeroValue122
 t72:=underlying125
 a72:=isAgg125
 z72:=sizeOf125
 v72:=zeroValue125
 t75:=underlying27
 a75:=isAgg27
 z75:=sizeOf27
 v75:=zeroValue27
 t76:=underlying117
 a76:=isAgg117
 z76:=sizeOf117
 v76:=zeroValue117
 t109:=underlying306
 a109:=isAgg306
 z109:=sizeOf306
 v109:=zeroValue306
 t127:=underlying182
 a127:=isAgg182
 z127:=sizeOf182
 v127:=zeroValue182
 t146:=underlying322
 a146:=isAgg322
 z146:=sizeOf322
 v146:=zeroValue322
 t148:=underlying324
 a148:=isAgg324
 z148:=sizeOf324
 v148:=zeroValue324
 t164:=underlying231
 a164:=isAgg231
 z164:=sizeOf231
 v164:=zeroValue231}
theorem Tryz.Builder_Extra_105:Builder.Extra prog Tryz.lays105_ren:={
 sizeBuilder:=zk
 liesBuilder:=zk
 t5:=underlying5
 a5:=isAgg5
 z5:=sizeOf5
 v5:=zeroValue5
 infoByte:=zk
 cellsByte:=zk
 sizeByte:=zk
 neB5:=zt}
open Go.RowKit Go.Lib in
theorem Tryz.strings_Repeat (s:ByteArray) (c:Nat) (w:World) (hc:c<=9223372036854775807) (hlen:s.size*c<=140737488355328):
  Calls prog 195 #[.string s,.int .i64 c] w fun e w'=>e= .returned (.string ⟨(Lib.repeatL s.data.toList c).toArray⟩)/\Below w.heap.size w w':=Any.strings_Repeat Tryz.lays105 Tryz.Builder_Extra_105 s c w hc hlen
end Go.Proofs
end
section
namespace Go.Proofs.YtfkekfibjnjcnaaGreatDoor
open Go.Proofs.Tryz
open Go.RowKit
variable {a0 a1 a2 a3:Int} {k:Nat} {w w':World}
def mx (a b:Int):Int:=max a b
theorem vjoin_any (a0 a1 a2 a3 b0 b1 b2 b3:Int) (w:World):
  Calls prog 27 #[.agg #[.int .i64 a0,.int .i64 a1,.int .i64 a2,.int .i64 a3],.agg #[.int .i64 b0,.int .i64 b1,.int .i64 b2,.int .i64 b3]] w fun e w'=>e= .returned (.agg #[.int .i64 (mx a0 b0),.int .i64 (mx a1 b1),.int .i64 (mx a2 b2),.int .i64 (mx a3 b3)])/\Below w.heap.size w w':=by
 have i0:∀w:World,(Instr.index 32 (.agg #[.int .i64 b0,.int .i64 b1,.int .i64 b2,.int .i64 b3]) (.int .i64 0)).run prog w= .ok (.int .i64 b0) w:=fun _=>zk
 have i1:∀w:World,(Instr.index 32 (.agg #[.int .i64 b0,.int .i64 b1,.int .i64 b2,.int .i64 b3]) (.int .i64 1)).run prog w= .ok (.int .i64 b1) w:=fun _=>zk
 have i2:∀w:World,(Instr.index 32 (.agg #[.int .i64 b0,.int .i64 b1,.int .i64 b2,.int .i64 b3]) (.int .i64 2)).run prog w= .ok (.int .i64 b2) w:=fun _=>zk
 have i3:∀w:World,(Instr.index 32 (.agg #[.int .i64 b0,.int .i64 b1,.int .i64 b2,.int .i64 b3]) (.int .i64 3)).run prog w= .ok (.int .i64 b3) w:=fun _=>zk
 have hm:∀x y:Int,(if x<y then y else x)=mx x y:=fun x y=>by rw [mx,Int.max_def];split<;>split<;>omega
 go_enter func27,ntmps27
 go_wp2
 refine wp_loop_rounds 5 ?_
 rw [rounds_succ];go_wp2
 rw [rounds_succ];go_wp2
 rw [rounds_succ];go_wp2
 rw [rounds_succ];go_wp2
 rw [rounds_succ];go_wp2
 refine bodyPost_ret (v:=.agg #[.int .i64 (mx a0 b0),.int .i64 (mx a1 b1),.int .i64 (mx a2 b2),.int .i64 (mx a3 b3)]) (by first | (simp [results,results27,go_sem];done) | (simp [results,results27,go_sem];refine ⟨?_,?_,?_,?_⟩<;>simp only [mx,Int.max_def]<;>split<;>split<;>omega)) rfl ⟨rfl,?_⟩
 exact ((zh _ _).alloc zm _).alloc zl _
theorem eqVec (a0 a1 a2 a3 b0 b1 b2 b3:Int) (w:World):(Op.equalIn 10000 32 (.agg #[.int .i64 a0,.int .i64 a1,.int .i64 a2,.int .i64 a3]) (.agg #[.int .i64 b0,.int .i64 b1,.int .i64 b2,.int .i64 b3])).run prog w= .ok (a0==b0 &&(a1==b1 &&(a2==b2 &&a3==b3))) w:=by
 have u3:=underlying3
 have a3':=isAgg3
 have z3:=sizeOf3
 have c3:prog.cellsOf 3=1:=zk
 have hS:prog.underlying 32=some (.array 4 3):=zk
 obtain ⟨i,hi⟩:=info_of_underlying u3
 rw [show (10000:Nat)=9999+1 from rfl,run_equalIn_array w 9999 _ _ hS hi,c3]
 simp only [show List.range 4= [0,1,2,3] from rfl,Op.eqItems]
 go_simp
 by_cases h1:a0=b0<;>by_cases h2:a1=b1<;>by_cases h3:a2=b2<;>by_cases h4:a3=b3<;>simp [h1,h2,h3,h4]
def VecAt (w:World) (k:Nat) (a0 a1 a2 a3:Int):Prop:=
 w.cell? ⟨k,0,none⟩=some (.int .i64 a0)/\w.cell? ⟨k,1,none⟩=some (.int .i64 a1)/\w.cell? ⟨k,2,none⟩=some (.int .i64 a2)/\w.cell? ⟨k,3,none⟩=some (.int .i64 a3)
theorem VecAt.later (h:VecAt w k a0 a1 a2 a3) (hb:Below w.heap.size w w'):VecAt w' k a0 a1 a2 a3:=
 ⟨cell_later hb h.1,cell_later hb h.2.1,cell_later hb h.2.2.1,cell_later hb h.2.2.2⟩
theorem VecAt.lt (h:VecAt w k a0 a1 a2 a3):k<w.heap.size:=vp w ⟨k,0,none⟩ h.1
def CovS (w0:World) (a0 a1 a2 a3 b0 b1 b2 b3:Int) (w:World):Prop:=
 (w.cell? ⟨w0.heap.size,0,none⟩=some (.int .i64 a0)/\w.cell? ⟨w0.heap.size,1,none⟩=some (.int .i64 a1)/\w.cell? ⟨w0.heap.size,2,none⟩=some (.int .i64 a2)/\w.cell? ⟨w0.heap.size,3,none⟩=some (.int .i64 a3))/\
 (w.cell? ⟨w0.heap.size+1,0,none⟩=some (.int .i64 b0)/\w.cell? ⟨w0.heap.size+1,1,none⟩=some (.int .i64 b1)/\w.cell? ⟨w0.heap.size+1,2,none⟩=some (.int .i64 b2)/\w.cell? ⟨w0.heap.size+1,3,none⟩=some (.int .i64 b3))/\
 Below w0.heap.size w0 w/\w0.heap.size+2<=w.heap.size
theorem CovS.later {w0 w w':World} {a0 a1 a2 a3 b0 b1 b2 b3:Int} (h:CovS w0 a0 a1 a2 a3 b0 b1 b2 b3 w) (hb:Below w.heap.size w w'):CovS w0 a0 a1 a2 a3 b0 b1 b2 b3 w':=
 ⟨VecAt.later h.1 hb,VecAt.later h.2.1 hb,h.2.2.1.trans (hb.mono qT),vr h.2.2.2 hb.size⟩
theorem CovS.drew {w0 w:World} {a0 a1 a2 a3 b0 b1 b2 b3:Int} (h:CovS w0 a0 a1 a2 a3 b0 b1 b2 b3 w):CovS w0 a0 a1 a2 a3 b0 b1 b2 b3 w.drew:=h.later (vu _ _).drew
def covB (a0 a1 a2 a3 b0 b1 b2 b3:Int):Bool:=mx a0 b0==a0 &&(mx a1 b1==a1 &&(mx a2 b2==a2 &&mx a3 b3==a3))
theorem vcovers_any (a0 a1 a2 a3 b0 b1 b2 b3:Int) (w:World):
  Calls prog 12 #[.agg #[.int .i64 a0,.int .i64 a1,.int .i64 a2,.int .i64 a3],.agg #[.int .i64 b0,.int .i64 b1,.int .i64 b2,.int .i64 b3]] w fun e w'=>e= .returned (.bool (covB a0 a1 a2 a3 b0 b1 b2 b3))/\Below w.heap.size w w':=by
 have S0:CovS w a0 a1 a2 a3 b0 b1 b2 b3 ((w.alloc (.cells #[.int .i64 a0,.int .i64 a1,.int .i64 a2,.int .i64 a3] 32)).alloc (.cells #[.int .i64 b0,.int .i64 b1,.int .i64 b2,.int .i64 b3] 32)):=
  ⟨ye,ye,(zh _ _).alloc zm _,zm⟩
 have eqV:=eqVec
 go_enter func12,ntmps12
 go_wp2_with fail
 generalize ((w.alloc (.cells #[.int .i64 a0,.int .i64 a1,.int .i64 a2,.int .i64 a3] 32)).alloc (.cells #[.int .i64 b0,.int .i64 b1,.int .i64 b2,.int .i64 b3] 32))=w1 at S0 |-
 obtain ⟨⟨A0,A1,A2,A3⟩,⟨A4,A5,A6,A7⟩,B1,z1⟩:=S0
 go_region_held3 (fun w'=>(w'.cell? ⟨w.heap.size,0,none⟩=some (.int .i64 a0)/\w'.cell? ⟨w.heap.size,1,none⟩=some (.int .i64 a1)/\w'.cell? ⟨w.heap.size,2,none⟩=some (.int .i64 a2)/\w'.cell? ⟨w.heap.size,3,none⟩=some (.int .i64 a3))/\
   (w'.cell? ⟨w.heap.size+1,0,none⟩=some (.int .i64 b0)/\w'.cell? ⟨w.heap.size+1,1,none⟩=some (.int .i64 b1)/\w'.cell? ⟨w.heap.size+1,2,none⟩=some (.int .i64 b2)/\w'.cell? ⟨w.heap.size+1,3,none⟩=some (.int .i64 b3))/\Below w.heap.size w w'/\w.heap.size+2<=w'.heap.size)
  (first
   | assumption
   | exact CovS.drew ⟨⟨A0,A1,A2,A3⟩,⟨A4,A5,A6,A7⟩,B1,z1⟩
   | exact CovS.later zq zq)
  (first
   | (go_at_call 27;refine (vjoin_any _ _ _ _ _ _ _ _ _).mono ?_;rintro e w' ⟨rfl,hb⟩))
 have S2:CovS w a0 a1 a2 a3 b0 b1 b2 b3 w':=zq
 go_wp2
 go_ret
 exact ⟨rfl,S2.2.2.1⟩
end Go.Proofs.YtfkekfibjnjcnaaGreatDoor
end
section
namespace Go.Proofs.YtfkekfibjnjcnaaGreatDoor
theorem laid_list {P:Program} {W:World} {ti tp te ts:TypeId} {ms:Array (String×TypeId)} {nm:String} {f:Field}
  (hi:P.underlying ti=some (.interface ms)) (hrow:∀u,P.typeName? 3 u=some nm->u=tp) (hp:P.underlying tp=some (.pointer te)) (he:P.underlying te=some (.struct #[f])) (hft:f.type=ts) (hfo:f.offset=0) (hs:P.underlying ts=some .string) (hc:P.cellsOf te=1) (hcs:P.cellsOf ts=1):
  ∀(l:List (String×Nat×List UInt8)) (ps:List MemPlace),
   (∀x∈l,P.globalNamed x.1=some x.2.1/\(P.globals[x.2.1]?).map (·.type)=some ti)->
   DataW.LaidVars P W (l.map fun x=>(x.1,.iface nm (.ptr (.agg [.lit (.string x.2.2)])))) ps->ps.Nodup->
   (∀b off,MemPlace.cell b off∈ps->(∃c t,W.heap[b]? =some (.cells c t (0,0)))/\∀u v,W.cell? ⟨b,off,none⟩=some (.iface u v)->Value.okWide P W .any 0 u v)->
   ∃az:List Addr,az.length=l.length/\(∀(i:Nat) (x:String×Nat×List UInt8) (a:Addr),l[i]? =some x->az[i]? =some a->W.cell? ⟨x.2.1,0,none⟩=some (.iface tp (.pointer (some a))))/\
    (∀a∈az,(∃c t,W.heap[a.block]? =some (.cells c t (0,0)))/\MemPlace.cell a.block a.off∈ps)/\az.Nodup
 | [],ps,_,_,_,_=>⟨[],rfl,zm,zm,Zj⟩
 | x::l,ps,hx,hv,hnd,hr=>by
  obtain ⟨g,t,cs,fuel,p,q,hg,ht,hvar,hd,hq,e⟩:=hv
  subst e
  obtain ⟨hg',ht'⟩:=hx x (vW)
  obtain rfl:=Option.some.inj (hg'.symm.trans hg)
  obtain rfl:=Option.some.inj (ht'.symm.trans ht)
  obtain ⟨l0⟩:=cs
  have ok0:∀u v,l0= [.iface u v]->Value.okWide P W .any 0 u v:=fun u v e=>by
   subst e
   exact (hr x.2.1 0 (by simp [MemPlace.row])).2 u v (by simpa using World.var?_cell hg hvar 0)
  obtain ⟨a0,s0,rfl,hc0,hs0,hz0,rfl⟩:=errorString_of_trod hi hrow hp he hft hfo hs hc hcs hd ok0
  have hnd2:=uf.1 hnd
  obtain ⟨az,hl,h1,h2,h3⟩:=laid_list hi hrow hp he hft hfo hs hc hcs l q (fun y hy=>hx y (vF _ hy)) hq hnd2.2.1 (fun b off hm=>hr b off (ub _ hm))
  have hm0:MemPlace.cell a0.block a0.off∈MemPlace.row ⟨x.2.1,0,none⟩ (#[Value.iface tp (.pointer (some a0))]:Array Value).size++MemPlace.row a0 1:=ub _ (by simp [MemPlace.row])
  refine ⟨a0::az,by simp [hl],?_,?_,?_⟩
  ·intro i y a hy ha
   cases i with
   | zero=>
    simp only [List.getElem?_cons_zero,Option.some.injEq] at hy ha
    subst hy ha
    simpa using World.var?_cell hg hvar 0
   | succ i=>
    simp only [List.getElem?_cons_succ] at hy ha
    exact h1 i y a hy ha
  ·intro a ha
   rcases vz.1 ha with rfl | ha
   ·exact ⟨(hr _ _ (vN _ hm0)).1,vN _ hm0⟩
   exact ⟨(h2 a ha).1,ub _ (h2 a ha).2⟩
  refine List.nodup_cons.2 ⟨fun hin=> ?_,h3⟩
  exact hnd2.2.2 _ hm0 _ (h2 a0 hin).2 rfl
theorem Tryz.yStar: "*" ++ "errors.errorString" = "*errors.errorString" :=zt
theorem Tryz.yRow (u:TypeId) (h:Tryz.prog.typeName? 3 u=some "*errors.errorString"):u=350:=
 typeName_ptr_named (nm:= "errors.errorString") (by rw [Tryz.yStar];kernel_rfl) zk zt u (by rw [Tryz.yStar];exact h)
theorem Tryz.yCellsS:Tryz.prog.cellsOf 364=1:=zk
theorem Tryz.yCellsString:Tryz.prog.cellsOf 9=1:=zk
end Go.Proofs.YtfkekfibjnjcnaaGreatDoor
end
section
namespace Go.Proofs.YtfkekfibjnjcnaaGreatDoor
open Go.Proofs.Tryz
theorem some_of {W:World} (l:List (String×Nat×List UInt8)) (hn:∀x∈l,prog.globalNamed x.1=some x.2.1/\(prog.globals[x.2.1]?).map (·.type)=some 27)
  (h1:laidMet prog (l.map fun x=>(x.1,.iface "*errors.errorString" (.ptr (.agg [.lit (.string x.2.2)])))) W):
  ∃az:List Addr,∀(i:Nat) x,l[i]? =some x->W.cell? ⟨x.2.1,0,none⟩=some (.iface 350 (.pointer (some (az.getD i ⟨0,0,none⟩)))):=by
 obtain ⟨ps,hv,hnd,hr⟩:=h1
 obtain ⟨az,hl,hcell,-,-⟩:=laid_list underlying27 Tryz.yRow underlying350 underlying364 rfl rfl underlying9 Tryz.yCellsS Tryz.yCellsString l ps hn hv hnd hr
 refine ⟨az,fun i x hx=>hcell i x _ hx ?_⟩
 have hi:i<az.length:=by rw [hl];exact (vi.1 hx).1
 rw [Zs,vj hi];rfl
