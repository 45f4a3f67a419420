import Derived.Test.YtehighgebbdenaaGreatDoorRa33
import Derived.Stop.Asserts
import Derived.RowKitTokens
set_option linter.unusedVariables false
set_option maxRecDepth 100000
set_option maxHeartbeats 64000000
namespace Go.Proofs.YtehighgebbdenaaGreatDoor
open Go.Proofs.Tryz
variable {s v:ByteArray} {T nd o:Int} {i kd:Nat}
section
open Go.RowKit Go.Lib Go.Sort Go.Maps
theorem Ga {B:Nat} {ad:Nat->Addr} (w:World) (c:Nat->Nat) (br:Nat) (T:Int) (i:Nat) (ao:Nat->Option Addr) (cap:Nat->Nat) (bt bx bc:Nat) (R:Rws) (nd:Int) (name value:ByteArray) (hc:RepCell w br T (i:Int) (kvs ao cap R) bt bx bc) (hrows:RowsAt w c (kvs ao cap R) R) (hR:RowsK R) (hE:EnvE B ad w) (hi:i<4) (hT:0<=T) (hm:T<=1073741824) (hn:(aR R).length<=140) (hs1:name.size<=1000000) (hs2:value.size<=1000000) (h2: -9223372036854775808<=nd) (h3:nd<=9223372036854775807):
  Calls prog 68 #[.pointer (some ⟨br,0,none⟩),.int .i64 nd,.string name,.string value] w (lP ad w (KnownN (aR R) nd) (bN T i (R i).length 115 nd 0 name value)):=by
 have hrl:∀i,i<4->(R i).length<=1000:=fun i hi=>yJ
 obtain ⟨S,hS⟩:=zc w.heap.size;obtain ⟨U,hU⟩:=zc (w.alloc (.cells #[.int .i64 0,.int .i64 0,.int .i64 0,.int .u8 0,.int .i64 0,.int .i64 0,.string ⟨#[]⟩,.string ⟨#[]⟩] 38));have hbU:Below w.heap.size w U:=zW;have Z0:OpBlk U S aV:=yM;have hcU:RepCell U br T (i:Int) (kvs ao cap R) bt bx bc:=hc.same (hbU.block _ hc.lt)
 obtain ⟨zb,hzb⟩:∃zb:Bool,zb=true↔(KnownN (aR R) nd):=⟨@decide _ (Classical.propDecidable _),@decide_eq_true_iff _ (Classical.propDecidable _)⟩
 have hplace:=eB U ao cap R nd zb hzb ((hE.later hbU).op4) ((KnownAt.of_rows hrows).later hbU) hR.toN hrl h2 h3;unfold kV at hplace;have k2:U.cell? ⟨br,2,none⟩=some (.slice (ao 0) (R 0).length (cap 0)):=hcU.c2;have k3:U.cell? ⟨br,3,none⟩=some (.slice (ao 1) (R 1).length (cap 1)):=hcU.c3;have k4:U.cell? ⟨br,4,none⟩=some (.slice (ao 2) (R 2).length (cap 2)):=hcU.c4;have k5:U.cell? ⟨br,5,none⟩=some (.slice (ao 3) (R 3).length (cap 3)):=hcU.c5
 have H0:Aside (RepCell U br T (i:Int) (kvs ao cap R) bt bx bc/\OpBlk U S aV/\Below w.heap.size w U/\S=w.heap.size/\EnvE B ad U/\B<=w.heap.size/\(zb=true↔(KnownN (aR R) nd))):=⟨hcU,Z0,hbU,hS,hE.later hbU,hE.size,hzb⟩
 have HU:Aside (U=w.alloc (.cells #[.int .i64 0,.int .i64 0,.int .i64 0,.int .u8 0,.int .i64 0,.int .i64 0,.string ⟨#[]⟩,.string ⟨#[]⟩] 38)):=hU;clear hU hcU Z0 hbU hE hc hS hzb hrows hR;go_enter func68,ntmps68;go_upto_region 1 with fail;rw [<-HU.o,<-H0.o.2.2.2.1];go_wp2_with fail;refine hplace.mono ?_;clear hplace k2 k3 k4 k5;rintro e w1 ⟨rfl,hb1⟩;have Z1:=H0.o.2.1.later hb1
 have H1:Aside (OpBlk w1 S aV/\Below w.heap.size w w1/\EnvE B ad w1/\RepCell w1 br T (i:Int) (kvs ao cap R) bt bx bc):=⟨Z1,zj H0.o.2.2.1 hb1,H0.o.2.2.2.2.1.later hb1,H0.o.1.same (hb1.block _ H0.o.1.lt)⟩
 clear hb1 Z1
 cases zb with
 | false=>
  have hno:¬(KnownN (aR R) nd):=fun q=>vx
  obtain ⟨z0,z1,z2,z3,z4,z5,z6,z7,zf⟩:=H1.o.1.cells;unfold aV at z0 z1 z2 z3 z4 z5 z6 z7;dsimp only at z0 z1 z2 z3 z4 z5 z6 z7;have eg:=H1.o.2.2.1.c5;have hlo:=H1.o.2.2.1.low;have hSw:=H0.o.2.2.2.1;have hBw:=H0.o.2.2.2.2.2.1;have n1:0≠S:=zo;have n2:S≠0:=zo;have HNO:=Lib.hid hno;clear hlo hSw hBw hno;go_wp2_with fail;go_region
  all_goals
   go_wp2;(try simp only [Exit.inBlock,Exit.then]);refine bodyPost_ret (v:=.tuple #[aD aV,eV ad 6]) ?_ rfl (.inr ⟨HNO.o,rfl,?_⟩)
   ·exact ke1
   exact kd0
 | true=>
  have HOK:Aside (KnownN (aR R) nd):=H0.o.2.2.2.2.2.2.1 rfl;have hown:=ig w1 br T i ao cap bt bx bc R 115 nd 0 name value H1.o.2.2.2 H1.o.2.2.1 hi hT hm hn hs1 hs2;unfold aD at hown;dsimp only at hown;go_wp2_with fail;refine hown.mono ?_;clear hown;rintro e w2 ⟨he,hb2⟩;obtain ⟨y,hy⟩:=zc ((if dJ (bN T i (R i).length 115 nd 0 name value)=0 then bN T i (R i).length 115 nd 0 name value else aV));obtain ⟨er,her⟩:=zc (eV ad (dJ (bN T i (R i).length 115 nd 0 name value)));rw [<-hy,<-her] at he;subst he
  have HY:Aside (y=(if dJ (bN T i (R i).length 115 nd 0 name value)=0 then bN T i (R i).length 115 nd 0 name value else aV)/\er=eV ad (dJ (bN T i (R i).length 115 nd 0 name value))):=⟨hy,her⟩
  clear hy her;obtain ⟨t,b,n,kd,nd',o,s,v⟩:=y;unfold aD;dsimp only;have Z2:=H1.o.1.later hb2;obtain ⟨z0,z1,z2,z3,z4,z5,z6,z7,zf⟩:=Z2.cells;unfold aV at z0 z1 z2 z3 z4 z5 z6 z7;dsimp only at z0 z1 z2 z3 z4 z5 z6 z7;have B2:Aside (Below w.heap.size w w2):=zj H1.o.2.1 hb2;clear hb2 Z2;go_wp2;(try simp only [Exit.inBlock,Exit.then]);refine bodyPost_ret (v:=.tuple #[.agg #[.int .i64 t,.int .i64 b,.int .i64 n,.int .u8 (kd:Int),.int .i64 nd',.int .i64 o,.string s,.string v],er]) ?_ rfl (.inl ⟨HOK.o,⟨by rw [<-HY.o.1,<-HY.o.2];rfl,?_⟩⟩)
  ·exact ke7
  exact aQ (b:=S) B2.o yB 0 [.int .i64 t,.int .i64 b,.int .i64 n,.int .u8 (kd:Int),.int .i64 nd',.int .i64 o,.string s,.string v]
theorem DQ {B:Nat} {ad:Nat->Addr} (w:World) (c:Nat->Nat) (br:Nat) (T:Int) (i:Nat) (ao:Nat->Option Addr) (cap:Nat->Nat) (bt bx bc:Nat) (R:Rws) (A:List OpX) (nd n:Int) (hc:RepCell w br T (i:Int) (kvs ao cap R) bt bx bc) (htext:TextC w c bx A) (hperm:A.Perm (aR R)) (hE:EnvE B ad w) (hi:i<4) (hT:0<=T) (hm:T<=1073741824) (hn:(aR R).length<=140) (h2: -9223372036854775808<=nd) (h3:nd<=9223372036854775807) (hn1: -9223372036854775808<=n) (hn2:n<=9223372036854775807):
  Calls prog 67 #[.pointer (some ⟨br,0,none⟩),.int .i64 nd,.int .i64 n] w fun e w'=>∃a:Int×Bool,((¬KnownN A nd->a=(0,false))/\(KnownN A nd->∃L,LineIs A nd L/\a=atL n L))/\lP ad w (a.2=true) (bN T i (R i).length 100 nd a.1 ⟨#[]⟩ ⟨#[]⟩) e w':=by
 have hAl:A.length<=140:=xR;obtain ⟨S,hS⟩:=zc w.heap.size;obtain ⟨U,hU⟩:=zc (w.alloc (.cells #[.int .i64 0,.int .i64 0,.int .i64 0,.int .u8 0,.int .i64 0,.int .i64 0,.string ⟨#[]⟩,.string ⟨#[]⟩] 38));have hbU:Below w.heap.size w U:=zW;have Z0:OpBlk U S aV:=yM;have hcU:RepCell U br T (i:Int) (kvs ao cap R) bt bx bc:=hc.same (hbU.block _ hc.lt);have htU:TextC U c bx A:=htext.kept ⟨fun k hk _=>hbU.block k hk,fun _ _=>rfl⟩ (fun _ _=>⟨fun k hk _=>hbU.block k hk,fun _ _=>rfl⟩);have hlet:=nB U c br T (i:Int) (kvs ao cap R) bt bx bc A nd n hcU htU zo zo zo ⟨hn1,hn2⟩
 have H0:Aside (RepCell U br T (i:Int) (kvs ao cap R) bt bx bc/\OpBlk U S aV/\Below w.heap.size w U/\S=w.heap.size/\EnvE B ad U/\B<=w.heap.size):=⟨hcU,Z0,hbU,hS,hE.later hbU,hE.size⟩
 have HU:Aside (U=w.alloc (.cells #[.int .i64 0,.int .i64 0,.int .i64 0,.int .u8 0,.int .i64 0,.int .i64 0,.string ⟨#[]⟩,.string ⟨#[]⟩] 38)):=hU;clear hU hcU Z0 hbU hE hc hS htext htU;go_enter func67,ntmps67;go_upto_region 1 with fail;rw [<-HU.o,<-H0.o.2.2.2.1];go_wp2_with fail;refine hlet.mono ?_;clear hlet;rintro e w1 ⟨⟨into,zb⟩,rfl,ha1,ha2,hb1⟩;dsimp only
 have HA:Aside ((¬KnownN A nd->(into,zb)=((0:Int),false))/\(KnownN A nd->∃L,LineIs A nd L/\(into,zb)=atL n L)):=⟨ha1,ha2⟩
 have Z1:=H0.o.2.1.later hb1
 have H1:Aside (OpBlk w1 S aV/\Below w.heap.size w w1/\EnvE B ad w1/\RepCell w1 br T (i:Int) (kvs ao cap R) bt bx bc):=⟨Z1,zj H0.o.2.2.1 hb1,H0.o.2.2.2.2.1.later hb1,H0.o.1.same (hb1.block _ H0.o.1.lt)⟩
 clear hb1 Z1 ha1 ha2
 cases zb with
 | false=>
  have hno:¬(((into,false):Int×Bool).2=true):=zv;obtain ⟨z0,z1,z2,z3,z4,z5,z6,z7,zf⟩:=H1.o.1.cells;unfold aV at z0 z1 z2 z3 z4 z5 z6 z7;dsimp only at z0 z1 z2 z3 z4 z5 z6 z7;have eg:=H1.o.2.2.1.c5;have hlo:=H1.o.2.2.1.low;have hSw:=H0.o.2.2.2.1;have hBw:=H0.o.2.2.2.2.2;have n1:0≠S:=zo;have n2:S≠0:=zo;have HNO:=Lib.hid hno;clear hlo hSw hBw hno;go_wp2_with fail;go_region
  all_goals
   go_wp2;(try simp only [Exit.inBlock,Exit.then]);refine bodyPost_ret (v:=.tuple #[aD aV,eV ad 6]) ?_ rfl ⟨(into,false),HA.o,.inr ⟨HNO.o,rfl,?_⟩⟩
   ·exact ke1
   exact kd0
 | true=>
  have HOK:Aside (((into,true):Int×Bool).2=true):=rfl;have hown:=ig w1 br T i ao cap bt bx bc R 100 nd into ⟨#[]⟩ ⟨#[]⟩ H1.o.2.2.2 H1.o.2.2.1 hi hT hm hn zu zu;unfold aD at hown;dsimp only at hown;go_wp2_with fail;refine hown.mono ?_;clear hown;rintro e w2 ⟨he,hb2⟩;obtain ⟨y,hy⟩:=zc ((if dJ (bN T i (R i).length 100 nd into ⟨#[]⟩ ⟨#[]⟩)=0 then bN T i (R i).length 100 nd into ⟨#[]⟩ ⟨#[]⟩ else aV));obtain ⟨er,her⟩:=zc (eV ad (dJ (bN T i (R i).length 100 nd into ⟨#[]⟩ ⟨#[]⟩)));rw [<-hy,<-her] at he;subst he
  have HY:Aside (y=(if dJ (bN T i (R i).length 100 nd into ⟨#[]⟩ ⟨#[]⟩)=0 then bN T i (R i).length 100 nd into ⟨#[]⟩ ⟨#[]⟩ else aV)/\er=eV ad (dJ (bN T i (R i).length 100 nd into ⟨#[]⟩ ⟨#[]⟩))):=⟨hy,her⟩
  clear hy her;obtain ⟨t,b,m,kd,nd',o,s,v⟩:=y;unfold aD;dsimp only;have Z2:=H1.o.1.later hb2;obtain ⟨z0,z1,z2,z3,z4,z5,z6,z7,zf⟩:=Z2.cells;unfold aV at z0 z1 z2 z3 z4 z5 z6 z7;dsimp only at z0 z1 z2 z3 z4 z5 z6 z7;have B2:Aside (Below w.heap.size w w2):=zj H1.o.2.1 hb2;clear hb2 Z2;go_wp2;(try simp only [Exit.inBlock,Exit.then]);refine bodyPost_ret (v:=.tuple #[.agg #[.int .i64 t,.int .i64 b,.int .i64 m,.int .u8 (kd:Int),.int .i64 nd',.int .i64 o,.string s,.string v],er]) ?_ rfl ⟨(into,true),HA.o,.inl ⟨rfl,⟨by dsimp only;rw [<-HY.o.1,<-HY.o.2];rfl,?_⟩⟩⟩
  ·exact ke7
  exact kf6
end
section
open Go.RowKit Go.Lib Go.Sort Go.Maps
open scoped Classical
theorem fo {S:List OpX} (h:∀x∈S,an x=0) (k:KnownN S nd):2<=nd:=by
 obtain ⟨x,hx,k1,k2,k3⟩:=k;have:=(dG (h x hx)).2.2.2.2.1 k1;omega
theorem IY (x:OpX):an x<=5:=by
 unfold an opE fi bF gV gu gy
 repeat (first | omega | split)
theorem wF {n:Int} {L:List Ltr} {id:Int} (h:atL n L=(id,true)):id∈L.map (·.1):=by
 unfold atL at h;split at h
 ·split at h
  ·rename_i l hl
   cases h
   exact ut.2 ⟨l,(Zy.1 (vQ hl)).1,rfl⟩
  cases h
 cases h
theorem iN {R:Rws} (he:an (bN T i (R i).length kd nd o s v)=0) (hr:RefOk (bN T i (R i).length kd nd o s v::aR R) (bN T i (R i).length kd nd o s v)):NextOp R i T (bN T i (R i).length kd nd o s v):=⟨he,rfl,rfl,rfl,hr⟩
theorem iA {m:Nat} (h:nd≠0):aL (bN T i m kd nd o s v)=nd:=if_neg h
section
variable {B:Nat} {ad:Nat→Addr} (w:World) (c:Nat→Nat) (br:Nat) (i:Nat) (R:Rws)
end
end
section
open Go.RowKit Go.Extern.Stop Go.Stop Go.Extern
theorem Tryz.xValueOfPP (t:Addr) (w:World):(ReflectliteValue.unpack (.iface 196 (.pointer (some t)))).run prog w
  = .ok (.agg #[.pointer (some ⟨19,196,none⟩),.pointer (some ⟨w.heap.size,0,none⟩),.int .u64 150]) (w.alloc (.cells #[.pointer (some t)] 196)):=zq
theorem Tryz.xTypePP (a:Addr) (w:World):(ReflectliteValue.methodAny (ReflectliteValue.valueError "reflectlite.Value.Type" 0) (fun t _ _ _=>ReflectliteType.toType t) #[.agg #[.pointer (some ⟨19,196,none⟩),.pointer (some a),.int .u64 150]]).run prog w
  = .ok (.iface 306 (.agg #[.pointer (some ⟨19,196,none⟩)])) w:=zq
theorem Tryz.xMethodKind (h:Value) (w:World):(Go.method 529 306 (.agg #[h]) "Kind").run prog w= .ok (332,h) w:=zq
theorem Tryz.xKindPP (w:World):((ReflectliteType.abiMethod fun t=>Functor.map (fun a:Nat=>Value.int IntKind.u8 (a:Int)) (Rtype.kind t)) #[.pointer (some ⟨19,196,none⟩)]).run prog w= .ok (.int .u8 22) w:=zq
theorem Tryz.xKindP (w:World):((ReflectliteType.abiMethod fun t=>Functor.map (fun a:Nat=>Value.int IntKind.u8 (a:Int)) (Rtype.kind t)) #[.pointer (some ⟨19,194,none⟩)]).run prog w= .ok (.int .u8 22) w:=zq
theorem Tryz.xIsNilPP (a p:Addr) (W:World) (ha:W.cell? a=some (.pointer (some p))):
  (ReflectliteValue.method (ReflectliteValue.valueError "reflectlite.Value.IsNil" 0) ReflectliteValue.isNil #[.agg #[.pointer (some ⟨19,196,none⟩),.pointer (some a),.int .u64 150]]).run prog W= .ok (.bool false) W:=by
 rw [show (ReflectliteValue.method (ReflectliteValue.valueError "reflectlite.Value.IsNil" 0) ReflectliteValue.isNil #[.agg #[.pointer (some ⟨19,196,none⟩),.pointer (some a),.int .u64 150]]).run prog W=(ReflectliteValue.isNil 196 a 150 22).run prog W by kernel_rfl];simp [ReflectliteValue.isNil,loadVar,isAgg,underlying,underlying196,ha,Result.andThen]
theorem Tryz.xMethodElem (h:Value) (w:World):(Go.method 529 306 (.agg #[h]) "Elem").run prog w= .ok (346,.agg #[h]) w:=zq
theorem Tryz.xMethodImplements (h:Value) (w:World):(Go.method 529 306 (.agg #[h]) "Implements").run prog w= .ok (347,.agg #[h]) w:=zq
theorem Tryz.xMethodAssignableTo (h:Value) (w:World):(Go.method 529 306 (.agg #[h]) "AssignableTo").run prog w= .ok (344,.agg #[h]) w:=zq
theorem Tryz.xElemPP (w:World):(ReflectliteType.method ReflectliteType.elem #[.agg #[.pointer (some ⟨19,196,none⟩)]]).run prog w= .ok (.iface 306 (.agg #[.pointer (some ⟨19,194,none⟩)])) w:=zq
theorem Tryz.xImplementsP (w:World):(ReflectliteType.relation "Implements" ReflectliteType.implements_ #[.agg #[.pointer (some ⟨19,194,none⟩)],.iface 306 (.agg #[.pointer (some ⟨19,27,none⟩)])]).run prog w= .ok (.bool true) w:=zq
theorem Tryz.xTypeOfP (v:Value) (w:World):(ReflectliteType.typeOf #[.iface 194 v]).run prog w= .ok (.iface 306 (.agg #[.pointer (some ⟨19,194,none⟩)])) w:=zq
theorem Tryz.xTypeOfS (v:Value) (w:World):(ReflectliteType.typeOf #[.iface 399 v]).run prog w= .ok (.iface 306 (.agg #[.pointer (some ⟨19,399,none⟩)])) w:=zq
theorem Tryz.xAssignableP (w:World):(ReflectliteType.relation "AssignableTo" ReflectliteType.assignableTo #[.agg #[.pointer (some ⟨19,194,none⟩)],.iface 306 (.agg #[.pointer (some ⟨19,194,none⟩)])]).run prog w= .ok (.bool true) w:=zq
theorem Tryz.xAssignableS (w:World):(ReflectliteType.relation "AssignableTo" ReflectliteType.assignableTo #[.agg #[.pointer (some ⟨19,399,none⟩)],.iface 306 (.agg #[.pointer (some ⟨19,194,none⟩)])]).run prog w= .ok (.bool false) w:=zq
theorem Tryz.xValueOfP (e:Addr) (w:World):(ReflectliteValue.unpack (.iface 194 (.pointer (some e)))).run prog w
  = .ok (.agg #[.pointer (some ⟨19,194,none⟩),.pointer (some ⟨w.heap.size,0,none⟩),.int .u64 150]) (w.alloc (.cells #[.pointer (some e)] 194)):=zq
theorem Tryz.xElemOfPP (w:World):(Rtype.elem? 196).run prog w= .ok (some 194) w:=zq
theorem Tryz.xMkP (p:Addr) (w:World):(ReflectliteValue.mk 194 p ReflectliteValue.flagAddr).run prog w= .ok (.agg #[.pointer (some ⟨19,194,none⟩),.pointer (some p),.int .u64 406]) w:=zq
theorem Tryz.xElemVPP (a p:Addr) (W:World) (ha:W.cell? a=some (.pointer (some p))):
  (ReflectliteValue.method (ReflectliteValue.valueError "reflectlite.Value.Elem" 0) ReflectliteValue.elem #[.agg #[.pointer (some ⟨19,196,none⟩),.pointer (some a),.int .u64 150]]).run prog W
   = .ok (.agg #[.pointer (some ⟨19,194,none⟩),.pointer (some p),.int .u64 406]) W:=by
 rw [show (ReflectliteValue.method (ReflectliteValue.valueError "reflectlite.Value.Elem" 0) ReflectliteValue.elem #[.agg #[.pointer (some ⟨19,196,none⟩),.pointer (some a),.int .u64 150]]).run prog W=(ReflectliteValue.elem 196 a 150 22).run prog W by kernel_rfl];simp [ReflectliteValue.elem,loadVar,isAgg,underlying,underlying196,ha,Result.andThen,Tryz.xElemOfPP,Tryz.xMkP]
theorem Tryz.xSetP (ta b e:Addr) (old:Value) (W:World) (hb:W.cell? b=some (.pointer (some e))) (ht:W.cell? ta=some old) (hf:W.frozen? ta=false):
  (ReflectliteValue.set #[.agg #[.pointer (some ⟨19,194,none⟩),.pointer (some ta),.int .u64 406],.agg #[.pointer (some ⟨19,194,none⟩),.pointer (some b),.int .u64 150]]).run prog W
   = .ok (.tuple #[]) (W.setCell ta (.pointer (some e))):=by
 rw [show (ReflectliteValue.set #[.agg #[.pointer (some ⟨19,194,none⟩),.pointer (some ta),.int .u64 406],.agg #[.pointer (some ⟨19,194,none⟩),.pointer (some b),.int .u64 150]]).run prog W=
  ((do let x <-loadVar 194 b;storeVar 194 ta x;pure (.tuple #[])):Sem Value).run prog W by kernel_rfl]
 simp [loadVar,isAgg,underlying,underlying194,hb,Result.andThen,storeVar,Value.cells,storeCells,Addr.add];rw [run_store prog W ta _ _ zA];simp [ht,hf]
theorem Tryz.xNoAsS (v:Value) (xT:TypeId) (w:World):(Instr.typeAssert (.iface 399 v) xT 310 true).run prog w= .ok (.tuple #[.nilIface,.bool false]) w:=run_typeAssert_lacksB underlying310 zq zq v xT w
theorem Tryz.xNoIsS (v:Value) (xT:TypeId) (w:World):(Instr.typeAssert (.iface 399 v) xT 317 true).run prog w= .ok (.tuple #[.nilIface,.bool false]) w:=run_typeAssert_lacksB underlying317 zq zq v xT w
theorem Tryz.xNoUnwrapS (v:Value) (xT:TypeId) (w:World):(Instr.typeAssert (.iface 399 v) xT 313 true).run prog w= .ok (.tuple #[.nilIface,.bool false]) w:=run_typeAssert_lacksB underlying313 zq zq v xT w
theorem Tryz.xNoUnwrapsS (v:Value) (xT:TypeId) (w:World):(Instr.typeAssert (.iface 399 v) xT 315 true).run prog w= .ok (.tuple #[.nilIface,.bool false]) w:=run_typeAssert_lacksB underlying315 zq zq v xT w
theorem Tryz.xNoIsP (v:Value) (xT:TypeId) (w:World):(Instr.typeAssert (.iface 194 v) xT 317 true).run prog w= .ok (.tuple #[.nilIface,.bool false]) w:=run_typeAssert_lacksB underlying317 zq zq v xT w
theorem Tryz.xHasUnwrapP (v:Value) (xT:TypeId) (w:World):(Instr.typeAssert (.iface 194 v) xT 313 true).run prog w= .ok (.tuple #[.iface 194 v,.bool true]) w:=run_typeAssert_hasB underlying313 zq v xT w
theorem Tryz.xMethodUnwrap (v:Value) (w:World):(Go.method 529 194 v "Unwrap").run prog w= .ok (338,v) w:=zq
def LO:Array Value->Sem Value:=ReflectliteType.method fun t=>do Rtype.noPackHeld "Comparable" t;pure (.bool (<-typeInfo t).comparable)
theorem Tryz.xComparable (w:World):(LO #[.agg #[.pointer (some ⟨19,399,none⟩)]]).run prog w= .ok (.bool true) w:=zq
theorem Tryz.xMethodComparable (v:Value) (w:World):(Go.method 529 306 v "Comparable").run prog w= .ok (345,v) w:=zq
theorem Tryz.xComp:(prog.info? 399).map (·.comparable)=some true:=zq
theorem Tryz.xSize:(prog.info? 417).map (·.size)=some 1:=zq
end
section
open Go.RowKit Go.Extern.Stop Go.Stop Go.Extern
theorem JG (a:Addr) (w:World):
  Calls prog 109 #[.iface 399 (.pointer (some a)),.iface 399 (.pointer (some a))] w fun e w'=>e= .returned (.bool true)/\w'=w:=by
 obtain ⟨i,hi,hcmp⟩:=Zj.1 Tryz.xComp;obtain ⟨j,hj,hjs⟩:=Zj.1 Tryz.xSize;have h8:= @run_callFunc_extern prog 174 _ Extern.ReflectliteType.typeOf func174 zq zq zq zq;have h32:= @run_callFunc_extern prog 345 _ LO func345 zq zq zq zq;have tT:=Tryz.xTypeOfS;have cT:=Tryz.xComparable;have mR:=Tryz.xMethodComparable;have heq:=run_eql_iface_ptr_same (P:=prog) w a underlying27 underlying399 hi hcmp hj;go_enter func109,ntmps109;go_wp2;refine wp_loop_rounds 1 ?_;rw [rounds_succ];exact kb4
theorem GW (a b:Addr) (ca cb:Array Value) (ta tb:TypeId) (w:World) (hne:a≠b) (ha:w.heap[a.block]? =some (.cells ca ta (0,0))) (hb:w.heap[b.block]? =some (.cells cb tb (0,0))):
  Calls prog 109 #[.iface 399 (.pointer (some a)),.iface 399 (.pointer (some b))] w fun e w'=>e= .returned (.bool false)/\w'=w:=by
 obtain ⟨i,hi,hcmp⟩:=Zj.1 Tryz.xComp;obtain ⟨j,hj,hjs⟩:=Zj.1 Tryz.xSize;have h8:= @run_callFunc_extern prog 174 _ Extern.ReflectliteType.typeOf func174 zq zq zq zq;have h32:= @run_callFunc_extern prog 345 _ LO func345 zq zq zq zq;have tT:=Tryz.xTypeOfS;have cT:=Tryz.xComparable;have mR:=Tryz.xMethodComparable;have nE:=Tryz.xNoIsS;have uE:=Tryz.xNoUnwrapS;have vE:=Tryz.xNoUnwrapsS;have heq:=run_eql_iface_ptr_other (P:=prog) w underlying27 underlying399 hi hcmp hj (by rw [hjs];decide) hne ha hb;go_enter func109,ntmps109;go_wp2;refine wp_loop_rounds 1 ?_;rw [rounds_succ];exact kb4
theorem nf (pb po:Nat) (b:Addr) (w:World) (h1:w.cell? ⟨pb,po+1,none⟩=some (.iface 399 (.pointer (some b)))):
  Calls prog 109 #[.iface 194 (.pointer (some ⟨pb,po,none⟩)),.iface 399 (.pointer (some b))] w fun e w'=>e= .returned (.bool true)/\w'=w:=by
 obtain ⟨i,hi,hcmp⟩:=Zj.1 Tryz.xComp;obtain ⟨j,hj,hjs⟩:=Zj.1 Tryz.xSize;have h8:= @run_callFunc_extern prog 174 _ Extern.ReflectliteType.typeOf func174 zq zq zq zq;have h32:= @run_callFunc_extern prog 345 _ LO func345 zq zq zq zq;have tT:=Tryz.xTypeOfS;have cT:=Tryz.xComparable;have mR:=Tryz.xMethodComparable;have nW:=Tryz.xNoIsP;have uW:=Tryz.xHasUnwrapP;have mU:=Tryz.xMethodUnwrap;have heq:=run_eql_iface_ptr_same (P:=prog) w b underlying27 underlying399 hi hcmp hj;have hty:=run_eql_iface_types (P:=prog) 194 399 (.pointer (some ⟨pb,po,none⟩)) (.pointer (some b)) underlying27 zu w;go_enter func109,ntmps109;go_wp2;refine wp_loop_rounds 2 ?_;rw [rounds_succ];go_wp2;rw [rounds_succ];exact kb4
theorem mB (pb po:Nat) (b a:Addr) (ca cb:Array Value) (ta tb:TypeId) (w:World) (h1:w.cell? ⟨pb,po+1,none⟩=some (.iface 399 (.pointer (some a)))) (hne:a≠b) (ha:w.heap[a.block]? =some (.cells ca ta (0,0))) (hb:w.heap[b.block]? =some (.cells cb tb (0,0))):
  Calls prog 109 #[.iface 194 (.pointer (some ⟨pb,po,none⟩)),.iface 399 (.pointer (some b))] w fun e w'=>e= .returned (.bool false)/\w'=w:=by
 obtain ⟨i,hi,hcmp⟩:=Zj.1 Tryz.xComp;obtain ⟨j,hj,hjs⟩:=Zj.1 Tryz.xSize;have h8:= @run_callFunc_extern prog 174 _ Extern.ReflectliteType.typeOf func174 zq zq zq zq;have h32:= @run_callFunc_extern prog 345 _ LO func345 zq zq zq zq;have tT:=Tryz.xTypeOfS;have cT:=Tryz.xComparable;have mR:=Tryz.xMethodComparable;have nE:=Tryz.xNoIsS;have uE:=Tryz.xNoUnwrapS;have vE:=Tryz.xNoUnwrapsS;have nW:=Tryz.xNoIsP;have uW:=Tryz.xHasUnwrapP;have mU:=Tryz.xMethodUnwrap;have heq:=run_eql_iface_ptr_other (P:=prog) w underlying27 underlying399 hi hcmp hj (by rw [hjs];decide) hne ha hb;have hty:=run_eql_iface_types (P:=prog) 194 399 (.pointer (some ⟨pb,po,none⟩)) (.pointer (some b)) underlying27 zu w;go_enter func109,ntmps109;go_wp2;refine wp_loop_rounds 2 ?_;rw [rounds_succ];go_wp2;rw [rounds_succ];exact kb4
end
section
open Go.RowKit Go.Extern.Stop Go.Stop Go.Extern
theorem LC (a t:Addr) (w:World) (hg:w.cell? ⟨12,0,none⟩=some (.iface 306 (.agg #[.pointer (some ⟨19,27,none⟩)]))):
  Calls prog 108 #[.iface 399 (.pointer (some a)),.iface 196 (.pointer (some t))] w fun ev w'=>ev= .returned (.bool false)/\Below w.heap.size w w':=by
 have h6:= @run_callFunc_extern prog 170 _ (fun args=>ReflectliteValue.unpack (args.getD 0 (.tuple #[]))) func170 zq zq zq zq;have h7:= @run_callFunc_extern prog 171 _ (ReflectliteValue.methodAny (ReflectliteValue.valueError "reflectlite.Value.Type" 0) (fun t _ _ _=>ReflectliteType.toType t)) func171 zq zq zq zq;have h8:= @run_callFunc_extern prog 172 _ (ReflectliteValue.method (ReflectliteValue.valueError "reflectlite.Value.IsNil" 0) ReflectliteValue.isNil) func172 zq zq zq zq;have h27:= @run_callFunc_extern prog 332 _ (ReflectliteType.abiMethod fun t=>do pure (.int .u8 (<-Rtype.kind t))) func332 zq zq zq zq;have h37:= @run_callFunc_extern prog 346 _ (ReflectliteType.method ReflectliteType.elem) func346 zq zq zq zq;have h38:= @run_callFunc_extern prog 347 _ (ReflectliteType.relation "Implements" ReflectliteType.implements_) func347 zq zq zq zq;have h10:= @run_callFunc_extern prog 174 _ ReflectliteType.typeOf func174 zq zq zq zq;have h35:= @run_callFunc_extern prog 344 _ (ReflectliteType.relation "AssignableTo" ReflectliteType.assignableTo) func344 zq zq zq zq;have tO:=Tryz.xTypeOfS;have mA:=Tryz.xMethodAssignableTo;have a25:=Tryz.xAssignableS;have f6:=Tryz.xValueOfPP;have f7:=Tryz.xTypePP;have mK:=Tryz.xMethodKind;have mE:=Tryz.xMethodElem;have mI:=Tryz.xMethodImplements;have k27:=Tryz.xKindPP;have k25:=Tryz.xKindP;have e27:=Tryz.xElemPP;have i25:=Tryz.xImplementsP;have nA:=Tryz.xNoAsS;have uE:=Tryz.xNoUnwrapS;have vE:=Tryz.xNoUnwrapsS;have n8:=Tryz.xIsNilPP ⟨w.heap.size,0,none⟩ t ((w.alloc (.cells #[.pointer (some t)] 196)).alloc (.cells #[.pointer (some ⟨19,196,none⟩),.pointer (some ⟨w.heap.size,0,none⟩),.int .u64 150] 265)) zv
 have hlt:12<w.heap.size:=by
  rcases uJ 12 w.heap.size with h | h
  ·exact h
  simp [World.cell?,Zn h] at hg
 have hg2:((w.alloc (.cells #[.pointer (some t)] 196)).alloc (.cells #[.pointer (some ⟨19,196,none⟩),.pointer (some ⟨w.heap.size,0,none⟩),.int .u64 150] 265)).cell? ⟨12,0,none⟩=some (.iface 306 (.agg #[.pointer (some ⟨19,27,none⟩)])):=by
  exact kn5
 go_enter func108,ntmps108;go_wp2;refine wp_loop_rounds 1 ?_;rw [rounds_succ];go_wp2;go_ret;exact ⟨rfl,((zh _ _).alloc zv _).alloc zr _⟩
theorem KF (e t:Addr) (old:Value) (w:World) (hg:w.cell? ⟨12,0,none⟩=some (.iface 306 (.agg #[.pointer (some ⟨19,27,none⟩)]))) (ht0:w.cell? t=some old) (hf0:w.frozen? t=false):
  Calls prog 108 #[.iface 194 (.pointer (some e)),.iface 196 (.pointer (some t))] w fun ev w'=>ev= .returned (.bool true)/\w'=((((w.alloc (.cells #[.pointer (some t)] 196)).alloc (.cells #[.pointer (some ⟨19,196,none⟩),.pointer (some ⟨w.heap.size,0,none⟩),.int .u64 150] 265)).alloc (.cells #[.pointer (some ⟨19,196,none⟩),.pointer (some ⟨w.heap.size,0,none⟩),.int .u64 150] 265)).alloc (.cells #[.pointer (some e)] 194)).setCell t (.pointer (some e)):=by
 have h6:= @run_callFunc_extern prog 170 _ (fun args=>ReflectliteValue.unpack (args.getD 0 (.tuple #[]))) func170 zq zq zq zq;have h7:= @run_callFunc_extern prog 171 _ (ReflectliteValue.methodAny (ReflectliteValue.valueError "reflectlite.Value.Type" 0) (fun t _ _ _=>ReflectliteType.toType t)) func171 zq zq zq zq;have h8:= @run_callFunc_extern prog 172 _ (ReflectliteValue.method (ReflectliteValue.valueError "reflectlite.Value.IsNil" 0) ReflectliteValue.isNil) func172 zq zq zq zq;have h27:= @run_callFunc_extern prog 332 _ (ReflectliteType.abiMethod fun t=>do pure (.int .u8 (<-Rtype.kind t))) func332 zq zq zq zq;have h37:= @run_callFunc_extern prog 346 _ (ReflectliteType.method ReflectliteType.elem) func346 zq zq zq zq;have h38:= @run_callFunc_extern prog 347 _ (ReflectliteType.relation "Implements" ReflectliteType.implements_) func347 zq zq zq zq;have h10:= @run_callFunc_extern prog 174 _ ReflectliteType.typeOf func174 zq zq zq zq;have h35:= @run_callFunc_extern prog 344 _ (ReflectliteType.relation "AssignableTo" ReflectliteType.assignableTo) func344 zq zq zq zq;have h11:= @run_callFunc_extern prog 217 _ (ReflectliteValue.method (ReflectliteValue.valueError "reflectlite.Value.Elem" 0) ReflectliteValue.elem) func217 zq zq zq zq;have h12:= @run_callFunc_extern prog 218 _ ReflectliteValue.set func218 zq zq zq zq;have tO:=Tryz.xTypeOfP;have mA:=Tryz.xMethodAssignableTo;have a25:=Tryz.xAssignableP;have v25:=Tryz.xValueOfP;have f6:=Tryz.xValueOfPP;have f7:=Tryz.xTypePP;have mK:=Tryz.xMethodKind;have mE:=Tryz.xMethodElem;have mI:=Tryz.xMethodImplements;have k27:=Tryz.xKindPP;have k25:=Tryz.xKindP;have e27:=Tryz.xElemPP;have i25:=Tryz.xImplementsP;have n8:=Tryz.xIsNilPP ⟨w.heap.size,0,none⟩ t ((w.alloc (.cells #[.pointer (some t)] 196)).alloc (.cells #[.pointer (some ⟨19,196,none⟩),.pointer (some ⟨w.heap.size,0,none⟩),.int .u64 150] 265)) zv
 have hlt:12<w.heap.size:=by
  rcases uJ 12 w.heap.size with h | h
  ·exact h
  simp [World.cell?,Zn h] at hg
 have hg2:((w.alloc (.cells #[.pointer (some t)] 196)).alloc (.cells #[.pointer (some ⟨19,196,none⟩),.pointer (some ⟨w.heap.size,0,none⟩),.int .u64 150] 265)).cell? ⟨12,0,none⟩=some (.iface 306 (.agg #[.pointer (some ⟨19,27,none⟩)])):=by
  exact kn5
 have htl:t.block<w.heap.size:=by
  rcases uJ t.block w.heap.size with h | h
  ·exact h
  simp [World.cell?,Zn h] at ht0
 have el:=Tryz.xElemVPP ⟨w.heap.size,0,none⟩ t (((w.alloc (.cells #[.pointer (some t)] 196)).alloc (.cells #[.pointer (some ⟨19,196,none⟩),.pointer (some ⟨w.heap.size,0,none⟩),.int .u64 150] 265)).alloc (.cells #[.pointer (some ⟨19,196,none⟩),.pointer (some ⟨w.heap.size,0,none⟩),.int .u64 150] 265)) (by rw [uD _ _ ⟨w.heap.size,0,none⟩ zr];simp)
 have st:=Tryz.xSetP t ⟨w.heap.size+1+1+1,0,none⟩ e old ((((w.alloc (.cells #[.pointer (some t)] 196)).alloc (.cells #[.pointer (some ⟨19,196,none⟩),.pointer (some ⟨w.heap.size,0,none⟩),.int .u64 150] 265)).alloc (.cells #[.pointer (some ⟨19,196,none⟩),.pointer (some ⟨w.heap.size,0,none⟩),.int .u64 150] 265)).alloc (.cells #[.pointer (some e)] 194))
  (by rw [World.cell?_alloc_at _ _ _ _ zv];rfl)
  (by rw [uD _ _ t zr,uD _ _ t zr,uD _ _ t zr,uD _ _ t htl];exact ht0)
  (by rw [Yc _ _ t zr,Yc _ _ t zr,Yc _ _ t zr,Yc _ _ t (Nat.ne_of_lt htl)];exact hf0)
 go_enter func108,ntmps108;go_wp2;refine wp_loop_rounds 1 ?_;rw [rounds_succ];exact kb4
theorem Ig (e t:Addr) (old:Value) (w:World) (hg:w.cell? ⟨12,0,none⟩=some (.iface 306 (.agg #[.pointer (some ⟨19,27,none⟩)]))) (ht0:w.cell? t=some old) (hf0:w.frozen? t=false):
  Calls prog 108 #[.iface 194 (.pointer (some e)),.iface 196 (.pointer (some t))] w fun ev w'=>ev= .returned (.bool true)/\w'.cell? t=some (.pointer (some e))/\Below t.block w w'/\w.heap.size<=w'.heap.size:=by
 have htl:t.block<w.heap.size:=by
  rcases uJ t.block w.heap.size with h | h
  ·exact h
  simp [World.cell?,Zn h] at ht0
 refine (KF e t old w hg ht0 hf0).mono ?_;rintro ev w' ⟨rfl,rfl⟩;refine ⟨rfl,?_,?_,?_⟩
 ·refine World.cell?_setCell_same (u:=old) _ _ _ ?_;rw [uD _ _ t zr,uD _ _ t zr,uD _ _ t zr,uD _ _ t htl];exact ht0
 ·exact (((((vP _ _).alloc zo _).alloc zr _).alloc zr _).alloc zr _).setCell zg _
 simp;omega
