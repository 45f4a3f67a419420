import Derived.Test.YtjclejjkganhfaaGreatDoorMacA
import Derived.Shelf.Strings.OnBuilder
import Derived.Shelf.Small.Strs
import Derived.Shelf.LaysM
import Derived.Shelf.Strconv.Itoa3
import Derived.Shelf.Strings.Split
import Derived.Shelf.Strings.SplitShaped
import Derived.Shelf.Sort.Plain
import Derived.Shelf.Slices.In.SortNone
import Derived.Shelf.Strings.Cut
import Derived.Shelf.Strings.Prefix
import Derived.Shelf.Strings.Repeat
import Derived.Shelf.Strings.Replace
import Derived.Shelf.Small.Wraps
import Derived.Shelf.Slices.ReverseS
import Derived.Shelf.Strings.Search3
set_option linter.unusedSimpArgs false
set_option linter.unusedVariables false
set_option maxRecDepth 100000
namespace Go.Proofs
open Go.Proofs.Tryz
section
open Shelf
def Tryz.aaL:Go.Shelf.Ren:=⟨fun | 156=>104 | 165=>136 | 166=>137 | 169=>138 | 240=>195 | 241=>196 | 276=>251 | 277=>252 | n=>n,fun | 31=>22 | 9=>9 | 3=>3 | 4=>4 | 0=>0 | 20=>20 | 72=>226 | 76=>193 | 70=>224 | 37=>141 | 75=>25 | 127=>284 | 164=>109 | 5=>5 | 80=>66 | n=>n,fun | n=>n⟩
theorem Tryz.abC:Go.Proofs.Lays.n156 prog Tryz.aaL:=⟨zk,func104.trans qk,func136.trans qk,func137.trans qk,func138.trans qk,func195.trans qk,func196.trans qk,func251.trans qk,func252.trans qk,zk,isAgg0,sizeOf0,zeroValue0,zk,isAgg3,sizeOf3,zeroValue3,zk,isAgg4,sizeOf4,zeroValue4,zk,isAgg9,sizeOf9,zeroValue9,zk,isAgg20,sizeOf20,zeroValue20,zk,isAgg22,sizeOf22,zeroValue22,zk,isAgg141,sizeOf141,zeroValue141,zk,isAgg224,sizeOf224,zeroValue224,zk,isAgg226,sizeOf226,zeroValue226,zk,isAgg25,sizeOf25,zeroValue25,zk,isAgg193,sizeOf193,zeroValue193,zk,isAgg284,sizeOf284,zeroValue284,zk,isAgg109,sizeOf109,zeroValue109⟩
theorem Tryz.C:Builder.Extra prog Tryz.aaL:={
 sizeBuilder:=zk
 liesBuilder:=zk
 t5:=underlying5
 a5:=isAgg5
 z5:=sizeOf5
 v5:=zeroValue5
 infoByte:=zk
 cellsByte:=zk
 sizeByte:=zk
 neB5:=zo}
open Go.RowKit in
theorem Tryz.strings_Join_none(a:Option Addr)(c:Nat)(R7:ByteArray)(w:World):
  Calls prog 104 #[.slice a 0 c,.string R7] w fun e w'=>e= .returned (.string ⟨#[]⟩)/\w'=w:=Any.strings_Join_none Tryz.abC Tryz.C a c R7 w
open Go.RowKit in
theorem Tryz.strings_Join(bk o c:Nat)(xs:List ByteArray)(R7:ByteArray)(w:World)(hcells:∀(j:Nat) x,xs[j]? =some x->w.cell? ⟨bk,o+j,none⟩=some (.string x))(hbk:bk<w.heap.size)(hN:xs.length<=140737488355328)(hcap:xs.length<=c)(hlen:(Lib.join (xs.map (·.data.toList)) R7.data.toList).length<=140737488355328):
  Calls prog 104 #[.slice (some ⟨bk,o,none⟩) xs.length c,.string R7] w fun e w'=>e= .returned (.string ⟨(Lib.join (xs.map (·.data.toList)) R7.data.toList).toArray⟩)/\Below w.heap.size w w':=Any.strings_Join Tryz.abC Tryz.C bk o c xs R7 w hcells hbk hN hcap hlen
def Tryz.aby:Go.Shelf.Ren:=⟨fun | 137=>382 | 217=>255 | 266=>320 | n=>n,fun | 9=>9 | 5=>5 | 3=>3 | n=>n,fun | n=>n⟩
theorem Tryz.ack:Go.Proofs.Lays.n137 prog Tryz.aby:=⟨zk,func382.trans qk,func255.trans qk,func320.trans qk,zk,isAgg3,sizeOf3,zeroValue3,zk,isAgg5,sizeOf5,zeroValue5,zk,isAgg9,sizeOf9,zeroValue9⟩
open Go.RowKit in
theorem Tryz.strings_IndexByte(s:ByteArray)(c:Int)(w:World):
  Calls prog 382 #[.string s,.int .u8 c] w fun e w'=>e= .returned (.int .i64 (Lib.indexByte s.data.toList c.toNat.toUInt8))/\w'=w:=Any.strings_IndexByte Tryz.ack s c w
def Tryz.abh:Go.Shelf.Ren:=⟨fun | 171=>54 | 243=>95 | 246=>126 | 283=>170 | 284=>171 | 285=>172 | 286=>173 | 129=>235 | 317=>234 | 318=>236 | 319=>237 | 320=>238 | 337=>290 | 338=>291 | n=>n,fun | 3=>3 | 9=>9 | 2=>2 | 4=>4 | 171=>258 | 0=>0 | 53=>259 | 37=>141 | 5=>5 | 173=>262 | 212=>322 | 51=>323 | 20=>20 | 213=>324 | 46=>325 | 232=>405 | 233=>406 | n=>n,fun | 17=>13 | 18=>17 | 19=>18 | n=>n⟩
theorem Tryz.ab1:Go.Proofs.LaysM.n171 prog Tryz.abh:={mixed:=zk,f129:=func235.trans qk,f171:=func54.trans qk,f243:=func95.trans qk,f246:=func126.trans qk,f283:=func170.trans qk,f284:=func171.trans qk,f285:=func172.trans qk,f286:=func173.trans qk,f317:=func234.trans qk,f318:=func236.trans qk,f319:=func237.trans qk,f320:=func238.trans qk,f337:=func290.trans qk,f338:=func291.trans qk,t0:=zk,a0:=isAgg0,z0:=sizeOf0,v0:=zeroValue0,t2:=zk,a2:=isAgg2,z2:=sizeOf2,v2:=zeroValue2,t3:=zk,a3:=isAgg3,z3:=sizeOf3,v3:=zeroValue3,t4:=zk,a4:=isAgg4,z4:=sizeOf4,v4:=zeroValue4,t5:=zk,a5:=isAgg5,z5:=sizeOf5,v5:=zeroValue5,t9:=zk,a9:=isAgg9,z9:=sizeOf9,v9:=zeroValue9,t20:=zk,a20:=isAgg20,z20:=sizeOf20,v20:=zeroValue20,t37:=zk,a37:=isAgg141,z37:=sizeOf141,v37:=zeroValue141,t46:=zk,a46:=isAgg325,z46:=sizeOf325,v46:=zeroValue325,t51:=zk,a51:=isAgg323,z51:=sizeOf323,v51:=zeroValue323,t53:=zk,a53:=isAgg259,z53:=sizeOf259,v53:=zeroValue259,t171:=zk,a171:=isAgg258,z171:=sizeOf258,v171:=zeroValue258,t173:=zk,a173:=isAgg262,z173:=sizeOf262,v173:=zeroValue262,t212:=zk,a212:=isAgg322,z212:=sizeOf322,v212:=zeroValue322,t213:=zk,a213:=isAgg324,z213:=sizeOf324,t232:=zk,a232:=isAgg405,z232:=sizeOf405,v232:=zeroValue405,t233:=zk,a233:=isAgg406,z233:=sizeOf406,v233:=zeroValue406,g17:=zk,g18:=zk,g19:=zk,i0:=zk,i2:=zk,i3:=zk,i4:=zk,i5:=zk,i9:=zk,i20:=zk,i37:=zk,i46:=zk,i51:=zk,i53:=zk,i171:=zk,i173:=zk,i212:=zk,i232:=zk,i233:=zk,m17:=zk,m18:=zk,m19:=zk}
open Go.RowKit Go.Sort Go.Lib in
theorem Tryz.strconv_Itoa(n:Int)(h0: -9223372036854775808<=n)(h1:n<=9223372036854775807)(w:World)(aK:Lib.TabIs prog w "internal/strconv.uint64pow10" .u64 Lib.pow10Tab):
  Calls prog 54 #[.int .i64 n] w fun e w'=>e= .returned (.string ⟨(Lib.itoa n).toArray⟩)/\∃k os,w'=grow (w.drewN k) os:=Any.strconv_Itoa Tryz.ab1 n h0 h1 w aK
def Tryz.abu:Go.Shelf.Ren:=⟨fun | 147=>68 | 221=>108 | 268=>147 | 138=>148 | 143=>149 | 195=>203 | 197=>174 | 218=>204 | 219=>205 | 260=>239 | 217=>255 | 225=>256 | 224=>257 | 267=>258 | 266=>320 | 314=>321 | n=>n,fun | 9=>9 | 3=>3 | 31=>22 | 4=>4 | 0=>0 | 105=>264 | 21=>21 | 5=>5 | 46=>325 | 119=>361 | 139=>364 | 138=>363 | 146=>383 | 51=>323 | n=>n,fun | 1=>14 | 3=>15 | 4=>16 | n=>n⟩
theorem Tryz.acd:Go.Proofs.Lays.n147 prog Tryz.abu:=⟨zk,func148.trans qk,func149.trans qk,func68.trans qk,func203.trans qk,func174.trans qk,func255.trans qk,func204.trans qk,func205.trans qk,func108.trans qk,func257.trans qk,func256.trans qk,func239.trans qk,func320.trans qk,func258.trans qk,func147.trans qk,func321.trans qk,zk,isAgg0,sizeOf0,zeroValue0,zk,isAgg3,sizeOf3,zeroValue3,zk,isAgg4,sizeOf4,zeroValue4,zk,isAgg5,sizeOf5,zeroValue5,zk,isAgg9,sizeOf9,zeroValue9,zk,isAgg21,sizeOf21,zeroValue21,zk,isAgg22,sizeOf22,zeroValue22,zk,isAgg325,sizeOf325,zeroValue325,zk,isAgg323,sizeOf323,zeroValue323,zk,isAgg264,sizeOf264,zeroValue264,zk,isAgg361,sizeOf361,zk,isAgg363,sizeOf363,zeroValue363,zk,isAgg364,sizeOf364,zeroValue364,zk,isAgg383,sizeOf383,zeroValue383,zk,zk,zk⟩
open Go.RowKit Go.Lib in
theorem Tryz.strings_SplitN(s R7:ByteArray)(n:Nat)(m:Int)(w:World)(hs:s.size<4294967281)(hm:w.cell? ⟨14,0,none⟩=some (.int .i64 m))(h1:1<=R7.size)(hn:1<=n)(hn63:n<=9223372036854775807):
  Calls prog 68 #[.string s,.string R7,.int .i64 n] w fun e w'=>
   e= .returned (.slice (some ⟨w.heap.size,0,none⟩) (Lib.splitB R7 0 (min n (s.size+1) - 1) s).length (min n (s.size+1)))/\w'=w.alloc (.cells (Lib.cellsOf (Lib.splitB R7 0 (min n (s.size+1) - 1) s) (min n (s.size+1))) 9):=Any.strings_SplitN Tryz.acd zk s R7 n m w hs hm h1 hn hn63
def Tryz.abj:Go.Shelf.Ren:=⟨fun | 147=>68 | 221=>108 | 268=>147 | 138=>148 | 143=>149 | 195=>203 | 197=>174 | 218=>204 | 219=>205 | 260=>239 | 217=>255 | 225=>256 | 224=>257 | 267=>258 | 266=>320 | 314=>321 | n=>n,fun | 9=>9 | 3=>3 | 31=>22 | 4=>4 | 0=>0 | 105=>264 | 21=>21 | 5=>5 | 46=>325 | 119=>361 | 139=>364 | 138=>363 | 146=>383 | 51=>323 | n=>n,fun | 1=>14 | 3=>15 | 4=>16 | n=>n⟩
theorem Tryz.ab0:Go.Proofs.LaysM.n147 prog Tryz.abj:={mixed:=zk,f138:=func148.trans qk,f143:=func149.trans qk,f147:=func68.trans qk,f195:=func203.trans qk,f197:=func174.trans qk,f217:=func255.trans qk,f218:=func204.trans qk,f219:=func205.trans qk,f221:=func108.trans qk,f224:=func257.trans qk,f225:=func256.trans qk,f260:=func239.trans qk,f266:=func320.trans qk,f267:=func258.trans qk,f268:=func147.trans qk,f314:=func321.trans qk,t0:=zk,a0:=isAgg0,z0:=sizeOf0,v0:=zeroValue0,t3:=zk,a3:=isAgg3,z3:=sizeOf3,v3:=zeroValue3,t4:=zk,a4:=isAgg4,z4:=sizeOf4,v4:=zeroValue4,t5:=zk,a5:=isAgg5,z5:=sizeOf5,v5:=zeroValue5,t9:=zk,a9:=isAgg9,z9:=sizeOf9,v9:=zeroValue9,t21:=zk,a21:=isAgg21,z21:=sizeOf21,v21:=zeroValue21,t31:=zk,a31:=isAgg22,z31:=sizeOf22,v31:=zeroValue22,t46:=zk,a46:=isAgg325,z46:=sizeOf325,v46:=zeroValue325,t51:=zk,a51:=isAgg323,z51:=sizeOf323,v51:=zeroValue323,t105:=zk,a105:=isAgg264,z105:=sizeOf264,v105:=zeroValue264,t119:=zk,a119:=isAgg361,z119:=sizeOf361,t138:=zk,a138:=isAgg363,z138:=sizeOf363,v138:=zeroValue363,t139:=zk,a139:=isAgg364,z139:=sizeOf364,v139:=zeroValue364,t146:=zk,a146:=isAgg383,z146:=sizeOf383,v146:=zeroValue383,g1:=zk,g3:=zk,g4:=zk,i0:=zk,i3:=zk,i4:=zk,i5:=zk,i9:=zk,i21:=zk,i31:=zk,i46:=zk,i51:=zk,i105:=zk,i138:=zk,i139:=zk,i146:=zk,m1:=zk,s1_3:=fun w h=>Go.Proofs.cell_of_shapedOpen_int (zero:= #[.int .i64 0]) (t:=3) h (of_decide_eq_true zk) zk rfl zk zk underlying3,m3:=zk,m4:=zk}
def Tryz.abq:Go.Shelf.Ren:=⟨fun | 189=>180 | 125=>245 | 257=>244 | 128=>302 | 129=>235 | 294=>293 | 295=>294 | 296=>295 | 297=>296 | 298=>297 | 299=>298 | 216=>299 | 300=>300 | 301=>301 | 328=>345 | 329=>346 | 330=>347 | 331=>348 | 332=>349 | 215=>242 | 343=>373 | n=>n,fun | 28=>35 | 3=>3 | 46=>325 | 0=>0 | 51=>323 | 53=>259 | 4=>4 | 183=>368 | 182=>367 | 131=>165 | 5=>5 | 9=>9 | 218=>407 | 222=>411 | 228=>428 | 229=>50 | n=>n,fun | n=>n⟩
theorem Tryz.abF:Go.Proofs.Lays.n189 prog Tryz.abq:=⟨zk,func245.trans qk,func302.trans qk,func235.trans qk,func180.trans qk,func242.trans qk,func299.trans qk,func244.trans qk,func293.trans qk,func294.trans qk,func295.trans qk,func296.trans qk,func297.trans qk,func298.trans qk,func300.trans qk,func301.trans qk,func345.trans qk,func346.trans qk,func347.trans qk,func348.trans qk,func349.trans qk,func373.trans qk,zk,isAgg0,sizeOf0,zeroValue0,zk,isAgg3,sizeOf3,zeroValue3,zk,isAgg4,sizeOf4,zeroValue4,zk,isAgg5,sizeOf5,zeroValue5,zk,isAgg9,sizeOf9,zeroValue9,zk,isAgg35,sizeOf35,zeroValue35,zk,isAgg325,sizeOf325,zeroValue325,zk,isAgg323,sizeOf323,zeroValue323,zk,isAgg259,sizeOf259,zeroValue259,zk,isAgg165,sizeOf165,zeroValue165,zk,isAgg367,sizeOf367,zeroValue367,zk,isAgg368,sizeOf368,zeroValue368,zk,isAgg407,sizeOf407,zeroValue407,zk,isAgg411,sizeOf411,zeroValue411,zk,isAgg428,sizeOf428,zeroValue428,zk,isAgg50,sizeOf50,zeroValue50⟩
open Go.Sort Go.RowKit in
theorem Tryz.slices_Sort_int(blk off cap:Nat)(zs:List Int)(w:World)(hH:Holds (Value.int .i64) w blk off zs.toArray)(hblk:blk<w.heap.size)(hsz:zs.length<4611686018427387904):
  Calls prog 180 #[.slice (some ⟨blk,off,none⟩) zs.length cap] w fun e w'=>
   e= .returned (.tuple #[])/\∃n os,w'=grow (putRow (Value.int .i64) (Sort.ahead w n) blk off (zs.mergeSort fun x y=>decide (x<=y)).toArray) os:=Any.slices_Sort_int Tryz.abF blk off cap zs w hH hblk hsz
open Go.RowKit Go.Sort in
theorem Tryz.slices_Sort_int_none(p:Option Addr)(cap:Nat)(w:World):
  Calls prog 180 #[.slice p 0 cap] w fun e w'=>e= .returned (.tuple #[])/\w'=w:=Any.slices_Sort_int_none Tryz.abF p cap w
def Tryz.abx:Go.Shelf.Ren:=⟨fun | 145=>287 | 220=>343 | 219=>205 | 217=>255 | 225=>256 | 224=>257 | 267=>258 | 266=>320 | 314=>321 | n=>n,fun | 9=>9 | 4=>4 | 59=>357 | 3=>3 | 5=>5 | 46=>325 | 146=>383 | 51=>323 | n=>n,fun | 1=>14 | n=>n⟩
theorem Tryz.acm:Go.Proofs.Lays.n145 prog Tryz.abx:=⟨zk,func287.trans qk,func255.trans qk,func205.trans qk,func343.trans qk,func257.trans qk,func256.trans qk,func320.trans qk,func258.trans qk,func321.trans qk,zk,isAgg3,sizeOf3,zeroValue3,zk,isAgg4,sizeOf4,zeroValue4,zk,isAgg5,sizeOf5,zeroValue5,zk,isAgg9,sizeOf9,zeroValue9,zk,isAgg325,sizeOf325,zeroValue325,zk,isAgg323,sizeOf323,zeroValue323,zk,isAgg357,sizeOf357,zeroValue357,zk,isAgg383,sizeOf383,zeroValue383,zk⟩
open Go.RowKit Go.Lib in
theorem Tryz.strings_Cut(s R7:ByteArray)(m:Int)(w:World)(hs:s.size<4294967281)(hm:w.cell? ⟨14,0,none⟩=some (.int .i64 m)):
  Calls prog 287 #[.string s,.string R7] w fun e w'=>e= .returned (.tuple #[.string ⟨(Lib.cut s.data.toList R7.data.toList).1.toArray⟩,.string ⟨(Lib.cut s.data.toList R7.data.toList).2.1.toArray⟩,.bool (Lib.cut s.data.toList R7.data.toList).2.2])/\∃n,w'=w.drewN n:=Any.strings_Cut Tryz.acm s R7 m w hs hm
def Tryz.abG:Go.Shelf.Ren:=⟨fun | 99=>289 | 206=>253 | n=>n,fun | 9=>9 | 4=>4 | 3=>3 | n=>n,fun | n=>n⟩
theorem Tryz.acL:Go.Proofs.Lays.n99 prog Tryz.abG:=⟨zk,func289.trans qk,func253.trans qk,zk,isAgg3,sizeOf3,zeroValue3,zk,isAgg4,sizeOf4,zeroValue4,zk,isAgg9,sizeOf9,zeroValue9⟩
open Go.RowKit Go.Lib in
theorem Tryz.strings_HasPrefix(s p:ByteArray)(w:World):
  Calls prog 289 #[.string s,.string p] w fun e w'=>e= .returned (.bool (Lib.hasPrefix s.data.toList p.data.toList))/\w'=w:=Any.strings_HasPrefix Tryz.acL s p w
def Tryz.aaH:Go.Shelf.Ren:=⟨fun | 105=>285 | 212=>341 | 99=>289 | 165=>136 | 166=>137 | 170=>342 | 169=>138 | 263=>370 | 264=>371 | 206=>253 | 240=>195 | 241=>196 | 276=>251 | 277=>252 | n=>n,fun | 9=>9 | 3=>3 | 4=>4 | 20=>20 | 0=>0 | 46=>325 | 109=>402 | 5=>5 | 72=>226 | 76=>193 | 51=>323 | 146=>383 | 53=>259 | 148=>425 | 70=>224 | 37=>141 | 75=>25 | 127=>284 | 164=>109 | 80=>66 | n=>n,fun | n=>n⟩
theorem Tryz.acf:Go.Proofs.Lays.n105 prog Tryz.aaH:=⟨zk,func289.trans qk,func285.trans qk,func136.trans qk,func137.trans qk,func138.trans qk,func342.trans qk,func253.trans qk,func341.trans qk,func195.trans qk,func196.trans qk,func370.trans qk,func371.trans qk,func251.trans qk,func252.trans qk,zk,isAgg0,sizeOf0,zeroValue0,zk,isAgg3,sizeOf3,zeroValue3,zk,isAgg4,sizeOf4,zeroValue4,zk,isAgg5,sizeOf5,zeroValue5,zk,isAgg9,sizeOf9,zeroValue9,zk,isAgg20,sizeOf20,zeroValue20,zk,isAgg141,sizeOf141,zeroValue141,zk,isAgg325,sizeOf325,zeroValue325,zk,isAgg323,sizeOf323,zeroValue323,zk,isAgg259,sizeOf259,zeroValue259,zk,isAgg224,sizeOf224,zeroValue224,zk,isAgg226,sizeOf226,zeroValue226,zk,isAgg25,sizeOf25,zeroValue25,zk,isAgg193,sizeOf193,zeroValue193,zk,isAgg402,sizeOf402,zeroValue402,zk,isAgg284,sizeOf284,zeroValue284,zk,isAgg383,sizeOf383,zeroValue383,zk,isAgg425,sizeOf425,zeroValue425,zk,isAgg109,sizeOf109,zeroValue109⟩
theorem Tryz.V:Builder.Extra prog Tryz.aaH:={
 sizeBuilder:=zk
 liesBuilder:=zk
 t5:=underlying5
 a5:=isAgg5
 z5:=sizeOf5
 v5:=zeroValue5
 infoByte:=zk
 cellsByte:=zk
 sizeByte:=zk
 neB5:=zo}
open Go.RowKit Go.Lib in
theorem Tryz.strings_Repeat(s:ByteArray)(c:Nat)(w:World)(hc:c<=9223372036854775807)(hlen:s.size*c<=140737488355328):
  Calls prog 285 #[.string s,.int .i64 c] w fun e w'=>e= .returned (.string ⟨(Lib.repeatL s.data.toList c).toArray⟩)/\Below w.heap.size w w':=Any.strings_Repeat Tryz.acf Tryz.V s c w hc hlen
def Tryz.aaG:Go.Shelf.Ren:=⟨fun | 155=>101 | 154=>127 | 138=>148 | 165=>136 | 143=>149 | 166=>137 | 197=>174 | 169=>138 | 195=>203 | 218=>204 | 240=>195 | 241=>196 | 219=>205 | 260=>239 | 276=>251 | 277=>252 | 217=>255 | 225=>256 | 224=>257 | 267=>258 | 266=>320 | 314=>321 | n=>n,fun | 9=>9 | 3=>3 | 4=>4 | 72=>226 | 0=>0 | 76=>193 | 105=>264 | 21=>21 | 5=>5 | 70=>224 | 20=>20 | 37=>141 | 75=>25 | 127=>284 | 164=>109 | 46=>325 | 119=>361 | 139=>364 | 138=>363 | 146=>383 | 51=>323 | 80=>66 | n=>n,fun | 1=>14 | 3=>15 | 4=>16 | n=>n⟩
theorem Tryz.acu:Go.Proofs.Lays.n155 prog Tryz.aaG:=⟨zk,func148.trans qk,func149.trans qk,func127.trans qk,func101.trans qk,func136.trans qk,func137.trans qk,func138.trans qk,func203.trans qk,func174.trans qk,func255.trans qk,func204.trans qk,func205.trans qk,func257.trans qk,func256.trans qk,func195.trans qk,func196.trans qk,func239.trans qk,func320.trans qk,func258.trans qk,func251.trans qk,func252.trans qk,func321.trans qk,zk,isAgg0,sizeOf0,zeroValue0,zk,isAgg3,sizeOf3,zeroValue3,zk,isAgg4,sizeOf4,zeroValue4,zk,isAgg5,sizeOf5,zeroValue5,zk,isAgg9,sizeOf9,zeroValue9,zk,isAgg20,sizeOf20,zeroValue20,zk,isAgg21,sizeOf21,zeroValue21,zk,isAgg141,sizeOf141,zeroValue141,zk,isAgg325,sizeOf325,zeroValue325,zk,isAgg323,sizeOf323,zeroValue323,zk,isAgg224,sizeOf224,zeroValue224,zk,isAgg226,sizeOf226,zeroValue226,zk,isAgg25,sizeOf25,zeroValue25,zk,isAgg193,sizeOf193,zeroValue193,zk,isAgg264,sizeOf264,zeroValue264,zk,isAgg361,sizeOf361,zk,isAgg284,sizeOf284,zeroValue284,zk,isAgg363,sizeOf363,zeroValue363,zk,isAgg364,sizeOf364,zeroValue364,zk,isAgg383,sizeOf383,zeroValue383,zk,isAgg109,sizeOf109,zeroValue109,zk,zk,zk⟩
theorem Tryz.X:Builder.Extra prog Tryz.aaG:={
 sizeBuilder:=zk
 liesBuilder:=zk
 t5:=underlying5
 a5:=isAgg5
 z5:=sizeOf5
 v5:=zeroValue5
 infoByte:=zk
 cellsByte:=zk
 sizeByte:=zk
 neB5:=zo}
open Go.RowKit Go.Lib in
theorem Tryz.strings_ReplaceAll(s X9 GA:ByteArray)(m:Int)(w:World)(hs:s.size<4294967281)(hm:w.cell? ⟨14,0,none⟩=some (.int .i64 m))(h1:1<=X9.size)(hlen:s.size+Lib.countB s X9*GA.size<=140737488355328):
  Calls prog 101 #[.string s,.string X9,.string GA] w fun e w'=>
   e= .returned (.string ⟨(Lib.replaceAll s.data.toList X9.data.toList GA.data.toList).toArray⟩)/\Below w.heap.size w w':=Any.strings_ReplaceAll Tryz.acu Tryz.X s X9 GA m w hs hm h1 hlen
def Tryz.abs:Go.Shelf.Ren:=⟨fun | 106=>193 | 213=>250 | 265=>319 | n=>n,fun | 9=>9 | 3=>3 | n=>n,fun | n=>n⟩
theorem Tryz.acy:Go.Proofs.Lays.n106 prog Tryz.abs:=⟨zk,func193.trans qk,func250.trans qk,func319.trans qk,zk,isAgg3,sizeOf3,zeroValue3,zk,isAgg9,sizeOf9,zeroValue9⟩
open Go.RowKit in
theorem Tryz.strings_Compare(a b:ByteArray)(w:World):
  Calls prog 193 #[.string a,.string b] w fun e w'=>e= .returned (.int .i64 (Lib.compareBytes a.data.toList b.data.toList))/\w'=w:=Any.strings_Compare Tryz.acy a b w
def Tryz.abv:Go.Shelf.Ren:=⟨fun | 103=>139 | 210=>197 | 206=>253 | n=>n,fun | 9=>9 | 4=>4 | 24=>30 | 3=>3 | n=>n,fun | n=>n⟩
theorem Tryz.acx:Go.Proofs.Lays.n103 prog Tryz.abv:=⟨zk,func139.trans qk,func253.trans qk,func197.trans qk,zk,isAgg3,sizeOf3,zeroValue3,zk,isAgg4,sizeOf4,zeroValue4,zk,isAgg9,sizeOf9,zeroValue9,zk,isAgg30,sizeOf30,zeroValue30⟩
open Go.RowKit in
theorem Tryz.strings_CutPrefix(s p:ByteArray)(w:World):
  Calls prog 139 #[.string s,.string p] w fun e w'=>e= .returned (.tuple #[.string ⟨(Lib.trimPrefix s.data.toList p.data.toList).toArray⟩,.bool (Lib.hasPrefix s.data.toList p.data.toList)])/\w'=w:=Any.strings_CutPrefix Tryz.acx s p w
def Tryz.aa7:Go.Shelf.Ren:=⟨fun | 17=>146 | n=>n,fun | 24=>22 | 9=>9 | 3=>3 | 4=>4 | 0=>0 | n=>n,fun | n=>n⟩
theorem Tryz.abL:Go.Proofs.Lays2.n17 prog Tryz.aa7:=⟨zk,func146.trans qk,zk,isAgg0,sizeOf0,zeroValue0,zk,isAgg3,sizeOf3,zeroValue3,zk,isAgg4,sizeOf4,zeroValue4,zk,isAgg9,sizeOf9,zeroValue9,zk,isAgg22,sizeOf22,zeroValue22⟩
open Go.RowKit Go.Lib Go.Sort in
theorem Tryz.slices_Reverse_string(blk off cap:Nat)(zs:List (List UInt8))(w:World)(hH:Holds encStr w blk off zs.toArray)(hsz:zs.length<=9223372036854775807):
  Calls prog 146 #[.slice (some ⟨blk,off,none⟩) zs.length cap] w fun e w'=>e= .returned (.tuple #[])/\∃n,w'=putRow encStr (Sort.ahead w n) blk off zs.reverse.toArray:=Any.slices_Reverse_string Tryz.abL blk off cap zs w hH hsz
def Tryz.abw:Go.Shelf.Ren:=⟨fun | 143=>149 | 219=>205 | 217=>255 | 225=>256 | 224=>257 | 267=>258 | 266=>320 | 314=>321 | n=>n,fun | 9=>9 | 3=>3 | 4=>4 | 5=>5 | 46=>325 | 146=>383 | 51=>323 | n=>n,fun | 1=>14 | n=>n⟩
theorem Tryz.ab4:Go.Proofs.Lays.n143 prog Tryz.abw:=⟨zk,func149.trans qk,func255.trans qk,func205.trans qk,func257.trans qk,func256.trans qk,func320.trans qk,func258.trans qk,func321.trans qk,zk,isAgg3,sizeOf3,zeroValue3,zk,isAgg4,sizeOf4,zeroValue4,zk,isAgg5,sizeOf5,zeroValue5,zk,isAgg9,sizeOf9,zeroValue9,zk,isAgg325,sizeOf325,zeroValue325,zk,isAgg323,sizeOf323,zeroValue323,zk,isAgg383,sizeOf383,zeroValue383,zk⟩
open Go.RowKit Go.Lib in
theorem Tryz.strings_Index(s sub:ByteArray)(m:Int)(w:World)(hs:s.size<4294967281)(hm:w.cell? ⟨14,0,none⟩=some (.int .i64 m)):
  Calls prog 149 #[.string s,.string sub] w fun e w'=>e= .returned (.int .i64 (Lib.index s.data.toList sub.data.toList))/\w'=w:=Any.strings_Index Tryz.ab4 s sub m w hs hm

end