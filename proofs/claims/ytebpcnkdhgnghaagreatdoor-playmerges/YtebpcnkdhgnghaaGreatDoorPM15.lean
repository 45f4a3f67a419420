import Derived.Test.YtebpcnkdhgnghaaGreatDoorHeldTk
import Derived.Test.YtebpcnkdhgnghaaGreatDoorPM06
import Derived.Test.YtebpcnkdhgnghaaGreatDoorPM07
import Derived.Test.YtebpcnkdhgnghaaGreatDoorPM12
import Derived.Shelf.SlicesE.Clone
import Derived.Lib.OwnBridge
set_option linter.unusedSimpArgs false
set_option linter.unusedVariables false
set_option maxRecDepth 100000
set_option maxHeartbeats 64000000
namespace Go.Proofs.YtebpcnkdhgnghaaGreatDoor
open Go.Proofs.Tryz
variable {d d' d0:Array (OpX×Nat)} {B blk g k n:Nat} {ad:Nat→Addr} {P:Program} {w w' w0:World}
section
open Go.RowKit Go.Maps
def iq (x:OpX):Nat:=if ai x=0 then (if x.2.2.2.1=115 then 0 else 5) else ai x
def Gz (f:cA) (x:OpX):Bool:=if ai x=0/\x.2.2.2.1=115 then fF f (LX x) (oG x) else false
def JR (w:World) (bc bm n:Nat) (f:cA) (x:OpX) (w':World):Prop:=CellsAt w' bc bm (n+1) (ku f x)/\Keeps (fun j=>j=bm) w w'
theorem nY {bc bm:Nat} {f:cA} {x:OpX} (h:CellsAt w bc bm n f) (hx:¬(ai x=0/\x.2.2.2.1=115)) (hb:Below w.heap.size w w'):JR w bc bm n f x w':=by
 have:ku f x=f:=by unfold ku;rw [if_neg hx]
 exact ⟨by rw [this];exact (h.later hb).mono (Nat.le_succ n),(aX hb).mono (fun k hk e=>zj)⟩
theorem NS {t b n:Int} {node other:Int} {name value:ByteArray} (h:opE t b n k node other name.data.toList value.data.toList=0) (hs:name.size<=1000000):WfK (node,name):=by
 obtain ⟨h1,h2,h3,h4,h5,h6,h7,h8,h9,_⟩:=ar h;exact NJ zQ zQ hs
theorem BS (w:World) (bc:Nat) (t b n:Int) (k:Nat) (node other:Int) (name value:ByteArray) (hE:Op4 ad w) (hsn:name.size<=1000000) (hsv:value.size<=1000000) (hop:opE t b n k node other name.data.toList value.data.toList≠0):
  Calls prog 140 #[.pointer (some ⟨bc,0,none⟩),.agg #[.int .i64 t,.int .i64 b,.int .i64 n,.int .u8 (k:Int),.int .i64 node,.int .i64 other,.string name,.string value]] w fun e w'=>e= .returned (.tuple #[.bool false,eV ad (opE t b n k node other name.data.toList value.data.toList)])/\Below w.heap.size w w':=by
 obtain ⟨w1,hw1⟩:=zc (w.alloc (.cells #[.int .i64 t,.int .i64 b,.int .i64 n,.int .u8 (k:Int),.int .i64 node,.int .i64 other,.string name,.string value] 61));have B1:Below w.heap.size w w1:=xq;have hck:=bA t b n k node other name value w1 (hE.later B1) hsn hsv
 obtain ⟨er,her⟩:∃er,Aside (opE t b n k node other name.data.toList value.data.toList=er):=⟨_,rfl⟩
 rw [her.o] at hck hop |-
 unfold eV at hck |-
 rw [if_neg hop] at hck |-
 have H1:Aside (Below w.heap.size w w1):=B1;clear B1 hE hop;go_enter func140,ntmps140;go_wp2_with fail;rw [<-hw1];clear hw1;refine hck.mono ?_;clear hck;rintro e w2 ⟨rfl,hb2⟩;have H2:Aside (Below w.heap.size w w2):=zi H1.o hb2;clear hb2 H1;go_wp2;go_ret2;exact ⟨rfl,H2.o⟩
theorem FT (w:World) (bc:Nat) (t b n:Int) (k:Nat) (node other:Int) (name value:ByteArray) (hE:Op4 ad w) (hsn:name.size<=1000000) (hsv:value.size<=1000000) (hop:opE t b n k node other name.data.toList value.data.toList=0) (hk:k≠115):
  Calls prog 140 #[.pointer (some ⟨bc,0,none⟩),.agg #[.int .i64 t,.int .i64 b,.int .i64 n,.int .u8 (k:Int),.int .i64 node,.int .i64 other,.string name,.string value]] w fun e w'=>e= .returned (.tuple #[.bool false,eV ad 5])/\Below w.heap.size w w':=by
 obtain ⟨w1,hw1⟩:=zc (w.alloc (.cells #[.int .i64 t,.int .i64 b,.int .i64 n,.int .u8 (k:Int),.int .i64 node,.int .i64 other,.string name,.string value] 61));have O1:OpAt w1 w.heap.size t b n k node other name value:=xL;have B1:Below w.heap.size w w1:=xq;have hck:=bA t b n k node other name value w1 (hE.later B1) hsn hsv;rw [hop] at hck;have e0:eV ad 0= .nilIface:=rfl;rw [e0] at hck;have e5:eV ad 5= .iface 450 (.pointer (some (ad 4))):=rfl;rw [e5]
 have H1:Aside (OpAt w1 w.heap.size t b n k node other name value/\Op4 ad w1/\Below w.heap.size w w1):=⟨O1,hE.later B1,B1⟩
 have dk:((k:Int) !=115)=true:=zq;clear B1 hE hop O1 e0 e5;go_enter func140,ntmps140;go_wp2_with fail;rw [<-hw1];clear hw1;refine hck.mono ?_;clear hck;rintro e w2 ⟨rfl,hb2⟩;have c3:=(H1.o.1.later hb2).c3;have g4:=(H1.o.2.1.later hb2).c4;have H2:Aside (Below w.heap.size w w2):=zi H1.o.2.2 hb2;clear hb2 H1;go_wp2_with fail;go_quiet (fail);go_wp2;go_ret2;exact ⟨rfl,⟨H2.o.os,H2.o.tape,H2.o.output,H2.o.size,H2.o.block⟩⟩
theorem Jf (w:World) (bc bm m:Nat) (f:cA) (t b n node other:Int) (name value:ByteArray) (hE:Op4 ad w) (hC:CellsAt w bc bm m f) (hm:m<=1000000) (hsn:name.size<=1000000) (hsv:value.size<=1000000) (hop:opE t b n 115 node other name.data.toList value.data.toList=0):
  Calls prog 140 #[.pointer (some ⟨bc,0,none⟩),.agg #[.int .i64 t,.int .i64 b,.int .i64 n,.int .u8 (115:Int),.int .i64 node,.int .i64 other,.string name,.string value]] w fun e w'=>e= .returned (.tuple #[.bool (fF f (node,name) (value,(t,b))),.nilIface])/\nJ w bc bm m f ((node,name),(value,(t,b))) w':=by
 obtain ⟨w1,hw1⟩:=zc (w.alloc (.cells #[.int .i64 t,.int .i64 b,.int .i64 n,.int .u8 (115:Int),.int .i64 node,.int .i64 other,.string name,.string value] 61))
 have O1:OpAt w1 w.heap.size t b n 115 node other name value:=by rw [hw1];exact OpAt.new w t b n 115 node other name value 61
 have B1:Below w.heap.size w w1:=xq;have hck:=bA t b n 115 node other name value w1 (hE.later B1) hsn hsv;have hwf:=NS hop hsn;rw [hop] at hck;have e0:eV ad 0= .nilIface:=rfl;rw [e0] at hck
 have H1:Aside (OpAt w1 w.heap.size t b n 115 node other name value/\CellsAt w1 bc bm m f/\Below w.heap.size w w1/\WfK (node,name)):=⟨O1,hC.later B1,B1,hwf⟩
 clear B1 hE hop O1 e0 hC hwf;go_enter func140,ntmps140;go_wp2_with fail;rw [<-hw1];clear hw1;refine hck.mono ?_;clear hck;rintro e w2 ⟨rfl,hb2⟩;obtain ⟨c0,c1,c2,c3,c4,c5,c6,c7⟩:=H1.o.1.later hb2;have hput:=Ky w2 bc bm m f node name value t b (H1.o.2.1.later hb2) hm H1.o.2.2.2;have H2:Aside (Below w.heap.size w w2):=zi H1.o.2.2.1 hb2;clear hb2 H1;go_wp2_with fail;refine hput.mono ?_;clear hput;rintro e w3 ⟨rfl,hP⟩
 have HP:Aside (nJ w bc bm m f ((node,name),(value,(t,b))) w3):=⟨hP.1,(aX H2.o).mono (fun k hk e=>zj) |>.then hP.2 (fun i hi e=>e)⟩
 clear hP H2;go_wp2;go_ret2;exact ⟨rfl,HP.o⟩
theorem JX (w:World) (bc bm m:Nat) (f:cA) (t b n:Int) (k:Nat) (node other:Int) (name value:ByteArray) (hE:Op4 ad w) (hC:CellsAt w bc bm m f) (hm:m<=1000000) (hsn:name.size<=1000000) (hsv:value.size<=1000000):
  Calls prog 140 #[.pointer (some ⟨bc,0,none⟩),.agg #[.int .i64 t,.int .i64 b,.int .i64 n,.int .u8 (k:Int),.int .i64 node,.int .i64 other,.string name,.string value]] w fun e w'=>e= .returned (.tuple #[.bool (Gz f (t,b,n,k,node,other,name,value)),eV ad (iq (t,b,n,k,node,other,name,value))])/\JR w bc bm m f (t,b,n,k,node,other,name,value) w':=by
 by_cases h0:opE t b n k node other name.data.toList value.data.toList=0
 ·by_cases hk:k=115
  ·subst hk
   have hx:ai (t,b,n,115,node,other,name,value)=0/\(115:Nat)=115:=⟨h0,rfl⟩
   have e1:Gz f (t,b,n,115,node,other,name,value)=fF f (node,name) (value,(t,b)):=by unfold Gz;rw [if_pos hx];rfl
   have e2:iq (t,b,n,115,node,other,name,value)=0:=by unfold iq;rw [if_pos (show ai (t,b,n,115,node,other,name,value)=0 from h0)];rfl
   have e3:ku f (t,b,n,115,node,other,name,value)=lw f ((node,name),(value,(t,b))):=by unfold ku;rw [if_pos hx];rfl
   rw [e1,e2];refine (Jf w bc bm m f t b n node other name value hE hC hm hsn hsv h0).mono ?_;rintro e w' ⟨rfl,hP⟩;exact ⟨rfl,by rw [e3];exact hP.1,hP.2⟩
  have hx:¬(ai (t,b,n,k,node,other,name,value)=0/\k=115):=fun h=>hk h.2
  have e1:Gz f (t,b,n,k,node,other,name,value)=false:=by unfold Gz;rw [if_neg hx]
  have e2:iq (t,b,n,k,node,other,name,value)=5:=by unfold iq;rw [if_pos (show ai (t,b,n,k,node,other,name,value)=0 from h0)];exact if_neg hk
  rw [e1,e2];refine (FT w bc t b n k node other name value hE hsn hsv h0 hk).mono ?_;rintro e w' ⟨rfl,hb⟩;exact ⟨rfl,nY hC hx hb⟩
 have hx:¬(ai (t,b,n,k,node,other,name,value)=0/\k=115):=fun h=>h0 h.1
 have e1:Gz f (t,b,n,k,node,other,name,value)=false:=by unfold Gz;rw [if_neg hx]
 have e2:iq (t,b,n,k,node,other,name,value)=opE t b n k node other name.data.toList value.data.toList:=by unfold iq;rw [if_neg (show ¬ai (t,b,n,k,node,other,name,value)=0 from h0)];rfl
 rw [e1,e2];refine (BS w bc t b n k node other name value hE hsn hsv h0).mono ?_;rintro e w' ⟨rfl,hb⟩;exact ⟨rfl,nY hC hx hb⟩
end
section
open Go.RowKit
def Dz (pb:Nat) (T t:Int) (w w':World):Prop:=(T<t/\∃W,Below w.heap.size w W/\w'.heap=(W.setCell ⟨pb,0,none⟩ (.int .i64 t)).heap/\Keeps (fun k=>k=pb) W w')\/(¬T<t/\Below w.heap.size w w')
theorem LG (pb:Nat) (T c t b:Int) (w:World) (hC:Clk pb T c w) (h1:1<=t) (h2:t<=1073741824) (h3:0<=b) (h4:b<4):
  Calls prog 198 #[.pointer (some ⟨pb,0,none⟩),.agg #[.int .i64 t,.int .i64 b]] w fun e w'=>e= .returned .nilIface/\Dz pb T t w w':=by
 have C0:=hC.later ((vG _ _).alloc zg (.cells #[.int .i64 t,.int .i64 b] 59));have hlt:=hC.lt;clear hC;by_cases hgt:T<t
 ·have HT:Aside (T<t):=hgt;go_enter func198,ntmps198;go_wp2_with fail;refine (lQ t b _ h1 h2 h3 h4).mono ?_;rintro e w1 ⟨rfl,hb⟩;have s0:w1.cell? ⟨w.heap.size,0,none⟩=some (.int .i64 t):=cell_later hb qe;have B1:Below w.heap.size w w1:=(zh _ _).trans (hb.mono zt);have C1:=C0.later hb;obtain ⟨k0,k1,kf⟩:=C1;clear C0 hb;go_wp2;go_quiet (fail);go_wp2;go_ret;exact ⟨rfl,.inl ⟨HT.o,_,Go.below_drewN B1 _,rfl,aZ pb [_] 0 _⟩⟩
 have HT:Aside (¬T<t):=hgt;go_enter func198,ntmps198;go_wp2_with fail;refine (lQ t b _ h1 h2 h3 h4).mono ?_;rintro e w1 ⟨rfl,hb⟩;have s0:w1.cell? ⟨w.heap.size,0,none⟩=some (.int .i64 t):=cell_later hb qe;have B1:Below w.heap.size w w1:=(zh _ _).trans (hb.mono zt);have C1:=C0.later hb;obtain ⟨k0,k1,kf⟩:=C1;clear C0 hb;go_wp2;go_quiet (fail);go_wp2;go_ret;exact ⟨rfl,.inr ⟨by have:=HT.o;omega,Go.below_drewN B1 _⟩⟩
theorem EO (pb:Nat) (T c t b:Int) (w:World) (hC:Clk pb T c w) (h1:1<=t) (h2:t<=1073741824) (h3:0<=b) (h4:b<4):
  Calls prog 134 #[.pointer (some ⟨pb,0,none⟩),.agg #[.int .i64 t,.int .i64 b]] w fun e w'=>(∃u,e= .returned u)/\∃W,Below w.heap.size w W/\Dz pb T t W w':=by
 obtain ⟨S,hS⟩:=zc w.heap.size;obtain ⟨U,hU⟩:=zc (w.alloc (.cells #[.int .i64 t,.int .i64 b] 59));have hb:Below w.heap.size w U:=yA
 have hs:U.heap[S]? =some (.cells #[.int .i64 t,.int .i64 b] 59 (0,0)):=by rw [hU,hS];exact heap_alloc_new w _
 have s0:U.cell? ⟨S,0,none⟩=some (.int .i64 t):=by simp [World.cell?,hs]
 have s1:U.cell? ⟨S,1,none⟩=some (.int .i64 b):=by simp [World.cell?,hs]
 have hcall:∀W,Below U.heap.size U W->Calls prog 198 #[.pointer (some ⟨pb,0,none⟩),.agg #[.int .i64 t,.int .i64 b]] W fun e w'=>e= .returned .nilIface/\Dz pb T t W w':=fun W hW=>LG pb T c t b W ((hC.later hb).later hW) h1 h2 h3 h4
 have HB:Aside (Below w.heap.size w U):=hb;clear hb hs hC;go_enter func134,ntmps134;go_wp2_with fail;rw [<-hU,<-hS];clear hU hS;refine bv (S:=(fun w'=>Below U.heap.size U w')) (z:=4) zo (vG _ U).drew (fun hHeld=> ?_);refine aY (i:=0) (v:= ?va0) zr rfl zo zo zo (fun _ _ _ h=>h) (Or.inl ⟨zv,?hy0⟩) hHeld ?rest0
 case hy0=>(intro w' _;go_simp;try with_reducible rfl)
 refine qn ?_;refine aY (i:=1) (v:= ?va1) zr rfl zo zo zo (fun _ _ _ h=>h) (Or.inl ⟨zv,?hy1⟩) hHeld ?rest1
 case hy1=>(intro w' _;go_simp;try with_reducible rfl)
 refine qn ?_;refine aY (i:=2) (v:= ?va2) zr rfl zo zo zo (fun _ _ _ h=>h) (Or.inl ⟨zv,?hy2⟩) hHeld ?rest2
 case hy2=>(intro w' _;go_simp;try with_reducible rfl)
 refine qn ?_;refine aA (i:=3) (v:= ?va3) zr zo rfl zo zo zo zo (fun _ _ _ h=>h) (Or.inl ⟨zv,?hy3⟩) hHeld ?rest3
 case hy3=>(intro w' hSw;have j0:=cell_later hSw s0;have j1:=cell_later hSw s1;go_simp;try with_reducible rfl)
 refine qn ?_;refine aF (i:=4) zo rfl (fun K hK=> ?_);go_simp;refine (hcall U.drew (vG _ U).drew).mono ?_;clear hcall;rintro e w' ⟨rfl,hh⟩;have HH:Aside (Dz pb T t U.drew w'):=hh;clear hh;refine hK _ _ (.inr ⟨rfl,zr⟩) ?_;clear hK K;refine bB zo ?_ _;go_wp2;go_end0;exact ⟨⟨_,rfl⟩,U.drew,HB.o.drew,HH.o⟩
end
section
open Go.Shelf Go.RowKit Go.Lib Go.Sort
theorem NZ {β:Type} [Inhabited β] {lt:β->β->Bool} {enc:β×Nat->List Value} {cf:β×Nat->β×Nat->Int} {off:Nat} {d0:Array (β×Nat)} (V:KQ P lt k enc cf g w0 blk off d0) (cap a m b:Nat) (d:Array (β×Nat)) (w:World)
  (hs:d0.size=d.size) (S:SWK enc k w0 blk off d w) (hr:Runs lt a m b d) (ham:a<m) (hmb:m<b) (hb:b<=d.size) (hsz:d.size<4611686018427387904) (_h0:m≠a+1) (_h1:b≠m+1)
  (IH:∀a' m' b' d' w',b' - a'<b - a->d0.size=d'.size->SWK enc k w0 blk off d' w'->Runs lt a' m' b' d'->a'<m'->m'<b'->b'<=d'.size->d'.size<4611686018427387904->eN P lt k enc g w0 blk off cap a' m' b' d' w') (hmid:m<=(a+b) / 2):
  eN P lt k enc g w0 blk off cap a m b d w:=by
 unfold eN;have L:=V.ty;have mixed:=L.mixed;have t0:=L.t0;have a0:=L.a0;have z0:=L.z0;have v0:=L.v0;have t3:=L.t3;have a3:=L.a3;have z3:=L.z3;have v3:=L.v3;have t4:=L.t4;have a4:=L.a4;have z4:=L.z4;have v4:=L.v4;have tS:=L.tS;have aS:=L.aS;have zS:=L.zS;have vS:=L.vS;have tC:=L.tC;have aC:=L.aC;have zC:=L.zC;have vC:=L.vC;have tU:=L.tU;have aU:=L.aU;have zU:=L.zU;have vU:=L.vU;have aE:=L.aE;have zE:=L.zE;have eR:∀args w,(callFunc 307 args).run P w= .ok (.enter 307 args) w:=enters_of V.fR zo rfl;have eM:∀args w,(callFunc 257 args).run P w= .ok (.enter 257 args) w:=enters_of V.fM zo rfl;have R:=V.row;have eg:=V.eg;have CMP:Aside (CmpLays P g #[] enc k cf blk off d0.size w0):=V.cmp;have LT:Aside (∀x y,decide (cf x y<0)=tlt lt x y):=V.less;have S0:Aside (SWK enc k w0 blk off d w):=S;have HR:Aside (Runs lt a m b d):=hr;have IH0:Aside (∀a' m' b' d' w',b' - a'<b - a->d0.size=d'.size->SWK enc k w0 blk off d' w'->Runs lt a' m' b' d'->a'<m'->m'<b'->b'<=d'.size->d'.size<4611686018427387904->eN P lt k enc g w0 blk off cap a' m' b' d' w'):=IH;clear S hr IH;have q0:((m:Int) - (a:Int)==1)=false:=zq;have q1:((b:Int) - (m:Int)==1)=false:=zq;clear _h0 _h1
 obtain ⟨mid,hmi⟩:∃mid:Nat,mid=(a+b) / 2:=⟨_,rfl⟩
 rw [<-hmi] at hmid;have hm1:a<mid:=zj;have hm2:mid<b:=zj;have hm3:a+b<=2*mid+1:=zj;have hm4:2*mid<=a+b:=zj;have q2:decide ((mid:Int)<(m:Int))=false:=zq;have hz:((a:Int)+(b:Int)) / 2=(mid:Int):=zj;have HZ:=Lib.hid hz
 obtain ⟨pp,hpp⟩:∃pp:Nat,pp=mid+m - 1:=⟨_,rfl⟩
 have hp1:pp+1<=mid+m:=zj;have hp2:mid+m<=pp+1:=zj;have HP:=Lib.hid (show (mid:Int)+(m:Int) - 1=(pp:Int) by omega);clear hz hmi hpp;go_enter V.fM,ntmps257;go_upto_region 25 with fail;rw [HZ.o];clear HZ;go_wp2;rw [HP.o];clear HP;rw [decide_eq_false (show ¬mid<m by omega)];clear q0 q1 q2;go_loopg [20,21] (m - (a)) (fun kx s20 s21 wr=>∃(i j:Nat),s20= .int .i64 (i:Int)/\s21= .int .i64 (j:Int)/\a<=i/\i<=j/\j<=m/\j - i<=kx/\Aside ((a<i->tlt lt d[mid+m - i]! d[i - 1]! =false)/\(j<m->tlt lt d[mid+m - 1 - j]! d[j]! =true))/\Aside (SWK enc k w0 blk off d wr))
 case atStart=>exact ⟨a,m,ye,rfl,vB _,zj,vB _,vB _,⟨fun h=>zj,fun h=>zj⟩,S0⟩
 case round=>
  clear S0;obtain ⟨i,j,rfl,rfl,hi,hij,hj,hkx,ED,S1⟩:=hrel;by_cases hlt:i<j
  ·have hltz:decide ((i:Int)<(j:Int))=true:=by simp;omega
   go_wp2_with fail
   obtain ⟨h,hh⟩:∃h:Nat,h=(i+j) / 2:=⟨_,rfl⟩
   have hi1:i<=h:=zj;have hi2:h<j:=zj;have hz:((i:Int)+(j:Int)) / 2=(h:Int):=zj
   obtain ⟨q,hq⟩:∃q:Nat,q=mid+m - 1 - h:=⟨_,rfl⟩
   have hq1:q+h+1<=mid+m:=zj;have hq2:mid+m<=q+h+1:=zj;have HQ:=Lib.hid (show (pp:Int)=(q:Int)+(h:Int) by omega);have HQN:=Lib.hid hq;rw [hz,HQ.o];clear hz hh hq;have ex:((q:Int)).toNat=q:=zj;have px:(0:Int)<=(q:Int):=zj;have bdx:(q:Int)<(d.size:Int):=zj;have rx:IntKind.i64.wrap ((q:Int))=(q:Int):=zu;have ey:((h:Int)).toNat=h:=zj;have py:(0:Int)<=(h:Int):=zj;have bdy:(h:Int)<(d.size:Int):=zj;have ry:IntKind.i64.wrap ((h:Int))=(h:Int):=zu;have lx:=S1.o.ld R zj P (q) zj;have ly:=S1.o.ld R zj P (h) zj;have hc:=S1.o.cmp CMP.o zj d[q]! d[h]!;have hl:=LT.o d[q]! d[h]!
   have SG:Aside (∀n os,SWK enc k w0 blk off d (grow (wr.drewN n) os)):=fun n os=>S1.o.grown n os
   generalize cf d[q]! d[h]! =z at hc hl;have HL:=Lib.hid hl;clear hl;simp only [Array.append_empty] at hc;by_cases hlv:z<0
   ·go_wp2_with fail;go_quiet_grown (first | (go_at_fn g;refine Calls.grown_of (hc _ _)));have S2:Aside (SWK enc k w0 blk off d (grow (wr.drewN nq) osq)):=SG.o nq osq
    have ED2:Aside ((a<i->tlt lt d[mid+m - i]! d[i - 1]! =false)/\(h<m->tlt lt d[mid+m - 1 - h]! d[h]! =true)):=⟨ED.o.1,fun _=>jk⟩
    clear lx ly hc SG S1 ED
    generalize grow (wr.drewN nq) osq=w2 at S2 |-
    rw [<-HQ.o];clear HQ HQN;go_wp2;go_roundg (h - i)
    case measure=>omega
    case rel=>exact ⟨i,h,rfl,rfl,hi,hi1,zj,vB _,ED2,S2⟩
   go_wp2_with fail;go_quiet_grown (first | (go_at_fn g;refine Calls.grown_of (hc _ _)));have S2:Aside (SWK enc k w0 blk off d (grow (wr.drewN nq) osq)):=SG.o nq osq
   have ED2:Aside ((a<h+1->tlt lt d[mid+m - (h+1)]! d[h+1 - 1]! =false)/\(j<m->tlt lt d[mid+m - 1 - j]! d[j]! =true)):=⟨fun _=>by rw [ZH,show mid+m - (h+1)=mid+m - 1 - h by omega,<-HQN.o,<-HL.o];exact decide_eq_false zj,ED.o.2⟩
   clear lx ly hc SG S1 ED
   generalize grow (wr.drewN nq) osq=w2 at S2 |-
   have hd:(!decide (z<0))=true:=qU;rw [<-HQ.o];clear HQ HQN;go_wp2;go_roundg (j - (h+1))
   case measure=>omega
   case rel=>exact ⟨h+1,j,zw,rfl,zj,zj,hj,vB _,ED2,S2⟩
   rename_i hx;exact kq1
  have hltz:decide ((i:Int)<(j:Int))=false:=zq;obtain rfl:i=j:=zj
  obtain ⟨e,hee⟩:∃e:Nat,e=mid+m - i:=⟨_,rfl⟩
  have he1:i+e=mid+m:=zj
  have hlo:a<i->e<b->tlt lt d[e]! d[i - 1]! =false:=fun x y=>by rw [hee];exact ED.o.1 zj
  have hhi:i<m->m<e->tlt lt d[e - 1]! d[i]! =true:=fun x y=>qK
  have HLO:Aside (a<i->e<b->tlt lt d[e]! d[i - 1]! =false):=hlo;have HHI:Aside (i<m->m<e->tlt lt d[e - 1]! d[i]! =true):=hhi;have hze:(mid:Int)+(m:Int) - (i:Int)=(e:Int):=zj;have HZE:=Lib.hid hze;clear hlo hhi hze hee ED;go_upto_region 39 with fail;rw [HZE.o];clear HZE;by_cases hrot:i<m
  ·skip;have b0:decide ((i:Int)<(m:Int))=true:=zq;have b1:decide ((m:Int)<(e:Int))=true:=zq;go_wp2_with fail;clear b0 b1;refine (mz k L V.fS V.fR enc blk off cap i m e d0 d w0 wr _ R hs S1.o zj zj zj zj).mono ?_;rintro ex w1 ⟨rfl,d1,RT,S_1⟩;have hzd1:d1.size=d.size:=RT.perm.1;have S2:Aside (SWK enc k w0 blk off d1 w1):=S_1;clear S_1 S1
   have CUT:Aside (Runs lt a i mid d1/\Runs lt mid e b d1/\∀p q,a<=p->p<mid->mid<=q->q<b->slt lt d1[q]! d1[p]! =false):=by
    exact kd5
   have PD1:Aside (PermIn a b d d1):=permIn_mono d d1 _ _ _ _ zj zj hb RT.perm;clear RT HLO HHI;by_cases hse:a<i
   ·skip;have b0:decide ((a:Int)<(i:Int))=true:=zq;have b1:decide ((i:Int)<(mid:Int))=true:=zq;go_wp2_with fail;clear b0 b1;have C:=IH0.o a i mid d1 w1 zj zj S2.o CUT.o.1 zj zj zj zj;unfold eN at C;rw [hzd1] at C;refine C.mono ?_;clear C;rintro ex w2 ⟨rfl,d2,⟨PMd2,SOd2⟩,S_d2⟩
    have hzd2:d2.size=d.size:=by rw [PMd2.1,hzd1]
    have Sd2:Aside (SWK enc k w0 blk off d2 w2):=S_d2
    have Qd2:Aside (PermIn a mid d1 d2/\SortedIn (slt lt) a mid d2):=⟨PMd2,SOd2⟩
    clear PMd2 SOd2 S_d2;clear S2;by_cases hth:e<b
    ·exact ka9
    exfalso;omega
   skip;have b0:decide ((a:Int)<(i:Int))=false:=zq
   have Qd1:Aside (PermIn a mid d1 d1/\SortedIn (slt lt) a mid d1):=⟨permIn_refl _ _ _,Runs.sorted CUT.o.1 zj⟩
   by_cases hth:e<b
   ·exact kb0
   skip;have b0:decide ((mid:Int)<(e:Int))=true:=zq;have b1:decide ((e:Int)<(b:Int))=false:=zq;exact kb1
  skip;have b0:decide ((i:Int)<(m:Int))=false:=zq
  obtain ⟨d1,w1,hd1,hw1⟩:∃d1 w1,d1=d/\w1=wr:=⟨_,_,rfl,rfl⟩
  have RT:Rot d d1 i m e:=xu;have hzd1:d1.size=d.size:=RT.perm.1
  have S2:Aside (SWK enc k w0 blk off d1 w1):=by rw [hd1,hw1];exact S1
  rw [<-hw1];clear hd1 hw1 S1
  have CUT:Aside (Runs lt a i mid d1/\Runs lt mid e b d1/\∀p q,a<=p->p<mid->mid<=q->q<b->slt lt d1[q]! d1[p]! =false):=by
   exact kd5
  have PD1:Aside (PermIn a b d d1):=permIn_mono d d1 _ _ _ _ zj zj hb RT.perm;clear RT HLO HHI;by_cases hse:i<mid
  ·skip;have b0:decide ((a:Int)<(i:Int))=true:=zq;have b1:decide ((i:Int)<(mid:Int))=true:=zq;go_wp2_with fail;clear b0 b1;have C:=IH0.o a i mid d1 w1 zj zj S2.o CUT.o.1 zj zj zj zj;unfold eN at C;rw [hzd1] at C;refine C.mono ?_;clear C;rintro ex w2 ⟨rfl,d2,⟨PMd2,SOd2⟩,S_d2⟩
   have hzd2:d2.size=d.size:=by rw [PMd2.1,hzd1]
   have Sd2:Aside (SWK enc k w0 blk off d2 w2):=S_d2
   have Qd2:Aside (PermIn a mid d1 d2/\SortedIn (slt lt) a mid d2):=⟨PMd2,SOd2⟩
   clear PMd2 SOd2 S_d2;clear S2;have b0:decide ((mid:Int)<(e:Int))=false:=zq;exact kc7
  skip;have b0:decide ((a:Int)<(i:Int))=true:=zq;have b1:decide ((i:Int)<(mid:Int))=false:=zq
  have Qd1:Aside (PermIn a mid d1 d1/\SortedIn (slt lt) a mid d1):=⟨permIn_refl _ _ _,Runs.sorted CUT.o.1 zj⟩
  have b0:decide ((mid:Int)<(e:Int))=false:=zq;exact kb1
end
section
open Go.Shelf Go.RowKit Go.Lib Go.Sort
theorem th {P:Program} {β:Type} [Inhabited β] {lt:β->β->Bool} {k:Nat} {enc:β×Nat->List Value} {cf:β×Nat->β×Nat->Int} {g:Nat} {w0:World} {blk off:Nat} {d0:Array (β×Nat)} (V:KQ P lt k enc cf g w0 blk off d0) (cap:Nat):∀(n a m b:Nat) (d:Array (β×Nat)) (w:World),
  b - a<=n->d0.size=d.size->SWK enc k w0 blk off d w->Runs lt a m b d->a<m->m<b->b<=d.size->d.size<4611686018427387904->eN P lt k enc g w0 blk off cap a m b d w
 | 0,a,m,b,d,w=>fun hn _ _ _ h1 h2 _ _=>absurd hn zj
 | n+1,a,m,b,d,w=>fun hn hs S hr h1 h2 hb hsz=>by
  have IH:∀a' m' b' d' w',b' - a'<b - a->d0.size=d'.size->SWK enc k w0 blk off d' w'->Runs lt a' m' b' d'->a'<m'->m'<b'->b'<=d'.size->d'.size<4611686018427387904->eN P lt k enc g w0 blk off cap a' m' b' d' w':=fun a' m' b' d' w' hl=>th V cap n a' m' b' d' w' zj
  by_cases c1:m=a+1
  ·exact Fb V cap a m b d w hs S hr h1 h2 hb hsz c1
  by_cases c2:b=m+1
  ·exact Gn V cap a m b d w hs S hr h1 h2 hb hsz c1 c2
  by_cases c3:(a+b) / 2<m
  ·exact MH V cap a m b d w hs S hr h1 h2 hb hsz c1 c2 IH c3
  exact NZ V cap a m b d w hs S hr h1 h2 hb hsz c1 c2 IH zj
end
section
open Go.Shelf Go.RowKit Go.Lib Go.Sort
def BH (P:Program) {β:Type} [Inhabited β] (lt:β->β->Bool) (k:Nat) (enc:β×Nat->List Value) (g:Nat) (w0:World) (blk off cap a b:Nat) (d:Array (β×Nat)) (w:World):Prop:=
 Calls P 256 #[.slice (some ⟨blk,off,none⟩) d.size cap,.int .i64 a,.int .i64 b,.func (.func g) #[] #[]] w fun e w'=>e= .returned (.tuple #[])/\∃d',(PermIn a b d d'/\SortedIn (slt lt) a b d')/\SWK enc k w0 blk off d' w'
theorem sf {β:Type} [Inhabited β] {lt:β->β->Bool} {enc:β×Nat->List Value} {cf:β×Nat->β×Nat->Int} {off:Nat} {d0:Array (β×Nat)} (V:KQ P lt k enc cf g w0 blk off d0) (cap:Nat) (d:Array (β×Nat)) (w:World)
  (hF:P.funcs[(197:Nat)]? =some f197)
  (eI:∀args w,(callFunc 256 args).run P w= .ok (.enter 256 args) w)
  (INS:∀a b d w,d0.size=d.size->SWK enc k w0 blk off d w->a<=b->b<=d.size->d.size<4611686018427387904->(∀p q,a<=p->p<q->q<b->d[p]!.2<d[q]!.2)->BH P lt k enc g w0 blk off cap a b d w)
  (hs:d0.size=d.size) (S:SWK enc k w0 blk off d w) (ht:∀p,p<d.size->d[p]!.2=p) (hsz:d.size<1152921504606846976):
  Calls P 197 #[.slice (some ⟨blk,off,none⟩) d.size cap,.int .i64 d.size,.func (.func g) #[] #[]] w fun e w'=>e= .returned (.tuple #[])/\∃d',(PermIn 0 d.size d d'/\SortedIn (slt lt) 0 d.size d')/\SWK enc k w0 blk off d' w':=by
 have L:=V.ty;have mixed:=L.mixed;have t0:=L.t0;have a0:=L.a0;have z0:=L.z0;have v0:=L.v0;have t3:=L.t3;have a3:=L.a3;have z3:=L.z3;have v3:=L.v3;have t4:=L.t4;have a4:=L.a4;have z4:=L.z4;have v4:=L.v4;have tS:=L.tS;have aS:=L.aS;have zS:=L.zS;have vS:=L.vS;have tC:=L.tC;have aC:=L.aC;have zC:=L.zC;have vC:=L.vC;have tU:=L.tU;have aU:=L.aU;have zU:=L.zU;have vU:=L.vU;have aE:=L.aE;have zE:=L.zE;have eM:∀args w,(callFunc 257 args).run P w= .ok (.enter 257 args) w:=enters_of V.fM zo rfl;have I0:Aside (∀a b d w,d0.size=d.size->SWK enc k w0 blk off d w->a<=b->b<=d.size->d.size<4611686018427387904->(∀p q,a<=p->p<q->q<b->d[p]!.2<d[q]!.2)->BH P lt k enc g w0 blk off cap a b d w):=INS;have S0:Aside (SWK enc k w0 blk off d w):=S;have T0:Aside (∀p,p<d.size->d[p]!.2=p):=ht;clear S ht INS;go_enter hF,ntmps197;go_wp2;go_loopg [7,8] d.size (fun kx s7 s8 wr=>∃(c a:Nat) (dk:Array (β×Nat)),s7= .int .i64 (a:Int)/\s8= .int .i64 ((a:Int)+20)/\a<=d.size/\d.size - a<=kx/\dk.size=d.size/\Aside (a=c*20)/\Aside (Blocks lt 20 a d.size dk)/\Aside (∀p,a<=p->p<d.size->dk[p]!.2=p)/\Aside (PermIn 0 d.size d dk)/\Aside (SWK enc k w0 blk off dk wr))
 case atStart=>exact ⟨0,0,d,rfl,ye,vM _,vB _,rfl,(by omega:(0:Nat)=0*20),⟨fun p hp c=>by rw [T0.o p hp],fun i j _ hj=>zj⟩,fun p _ hp=>T0.o p hp,permIn_refl _ _ _,S0⟩
 case round=>
  clear S0 T0;obtain ⟨c,a,dk,rfl,rfl,han,hkx,hdk,HA,BL,TG,PM,S1⟩:=hrel;by_cases hlt:a+20<=d.size
  ·have q1:decide ((a:Int)+20<=(d.size:Int))=true:=by simp;omega
   go_wp2_with fail;clear q1;have c1:(a:Int)+20=((a+20:Nat):Int):=zj;have C:=I0.o a (a+20) dk wr zj S1.o zj zj zj (fun p q hp hpq hq=>xa);unfold BH at C;rw [hdk,<-c1] at C;clear c1;refine C.mono ?_;clear C;rintro ex w1 ⟨rfl,d1,⟨PM1,SO1⟩,S_1⟩;have S2:Aside (SWK enc k w0 blk off d1 w1):=S_1
   have hd1:d1.size=d.size:=by rw [PM1.1,hdk]
   have BL2:Aside (Blocks lt 20 (a+20) d.size d1):=Blocks.step BL.o hdk.symm HA.o hlt (.inl rfl) PM1 SO1
   have TG2:Aside (∀p,a+20<=p->p<d.size->d1[p]!.2=p):=fun p hp hpn=>by rw [PM1.2.1 p (.inr hp)];exact TG.o p zj hpn
   have PM2:Aside (PermIn 0 d.size d d1):=permIn_trans _ _ _ _ _ PM.o (permIn_mono dk d1 _ _ _ _ (vM _) hlt zj PM1)
   have HA2:Aside (a+20=(c+1)*20):=by have:=HA.o;show _=_;omega
   clear S_1 PM1 SO1 BL TG PM S1 HA;go_wp2;go_roundg (d.size - (a+20))
   case measure=>omega
   case rel=>exact ⟨c+1,a+20,d1,zw,by first | rfl | go_num | (congr 1;omega),hlt,vB _,hd1,HA2,BL2,TG2,PM2,S2⟩
  have q1:decide ((a:Int)+20<=(d.size:Int))=false:=zq;go_wp2_with fail;clear q1;have C:=I0.o a d.size dk wr zj S1.o zj zj zj (fun p q hp hpq hq=>xa);unfold BH at C;rw [hdk] at C;refine C.mono ?_;clear C;rintro ex w1 ⟨rfl,d1,⟨PM1,SO1⟩,S_1⟩;have S2:Aside (SWK enc k w0 blk off d1 w1):=S_1
  have hd1:d1.size=d.size:=by rw [PM1.1,hdk]
  have BL2:Aside (Blocks lt 20 d.size d.size d1):=Blocks.step BL.o hdk.symm HA.o zg (.inr ⟨rfl,zj⟩) PM1 SO1;have PM2:Aside (PermIn 0 d.size d d1):=permIn_trans _ _ _ _ _ PM.o (permIn_mono dk d1 _ _ _ _ (vM _) zg zj PM1);clear S_1 PM1 SO1 BL TG PM S1 HA hkx hlt;go_wp2;go_loopg [6] d.size (fun kx s6 wr=>∃(B:Nat) (dk:Array (β×Nat)),s6= .int .i64 (B:Int)/\20<=B/\d.size - B<=kx/\dk.size=d.size/\Aside (Blocks lt B d.size d.size dk)/\Aside (PermIn 0 d.size d dk)/\Aside (SWK enc k w0 blk off dk wr))
  case atStart=>exact ⟨20,d1,rfl,vB _,zj,hd1,BL2,PM2,S2⟩
  case round=>
   clear S2 BL2 PM2 hd1;obtain ⟨B,dk2,rfl,hB,hkx,hdk2,BL,PM,S1⟩:=hrel;by_cases hBn:B<d.size
   ·have q1:decide ((B:Int)<(d.size:Int))=true:=by simp;omega
    have HF:Aside (Half lt B 0 d.size dk2):=BL.o.half;go_wp2;clear q1 BL;go_loopg [7,8] d.size (fun kx s7 s8 wr=>∃(c a:Nat) (dk:Array (β×Nat)),s7= .int .i64 (a:Int)/\s8= .int .i64 ((a:Int)+2*(B:Int))/\a<=d.size/\d.size - a<=kx/\dk.size=d.size/\Aside (a=c*(2*B))/\Aside (Half lt B a d.size dk)/\Aside (PermIn 0 d.size d dk)/\Aside (SWK enc k w0 blk off dk wr))
    case atStart=>exact ⟨0,0,dk2,rfl,ye,vM _,vB _,hdk2,(by show 0=_;rw [Nat.zero_mul]),HF,PM,S1⟩
    case round=>
     clear S1 PM HF hdk2;obtain ⟨c,a,dk3,rfl,rfl,han,hkx3,hdk3,HA,HF,PM,S1⟩:=hrel;by_cases hlt:a+2*B<=d.size
     ·have q1:decide ((a:Int)+2*(B:Int)<=(d.size:Int))=true:=by simp;omega
      go_wp2_with fail;clear q1;have c1:(a:Int)+(B:Int)=((a+B:Nat):Int):=zj;have c2:(a:Int)+2*(B:Int)=((a+2*B:Nat):Int):=zj;have C:=th V cap _ a (a+B) (a+2*B) dk3 wr zg zj S1.o (HF.o.runs HA.o rfl zj zj hlt) zj zj zj zj;unfold eN at C;rw [hdk3,<-c1,<-c2] at C;clear c1 c2;refine C.mono ?_;clear C;rintro ex w1 ⟨rfl,d1,⟨PM1,SO1⟩,S_1⟩;have S2:Aside (SWK enc k w0 blk off d1 w1):=S_1
      have hd1:d1.size=d.size:=by rw [PM1.1,hdk3]
      have HF2:Aside (Half lt B (a+2*B) d.size d1):=Half.step HF.o hdk3.symm HA.o zj hlt (.inl rfl) PM1 SO1;have PM2:Aside (PermIn 0 d.size d d1):=permIn_trans _ _ _ _ _ PM.o (permIn_mono dk3 d1 _ _ _ _ (vM _) hlt zj PM1)
      have HA2:Aside (a+2*B=(c+1)*(2*B)):=by show _=_;rw [Zz,<-HA.o];omega
      clear S_1 PM1 SO1 HF PM S1 HA;go_wp2;go_roundg (d.size - (a+2*B))
      case measure=>omega
      case rel=>exact ⟨c+1,a+2*B,d1,ye,ye,hlt,vB _,hd1,HA2,HF2,PM2,S2⟩
     have q1:decide ((a:Int)+2*(B:Int)<=(d.size:Int))=false:=zq;by_cases hmn:a+B<d.size
     ·have q2:decide ((a:Int)+(B:Int)<(d.size:Int))=true:=by simp;omega
      go_wp2_with fail;clear q1 q2;have c1:(a:Int)+(B:Int)=((a+B:Nat):Int):=zj;have C:=th V cap _ a (a+B) d.size dk3 wr zg zj S1.o (HF.o.runs HA.o rfl zj zj zg) zj zj zj zj;unfold eN at C;rw [hdk3,<-c1] at C;clear c1;refine C.mono ?_;clear C;rintro ex w1 ⟨rfl,d1,⟨PM1,SO1⟩,S_1⟩;have S2:Aside (SWK enc k w0 blk off d1 w1):=S_1
      have hd1:d1.size=d.size:=by rw [PM1.1,hdk3]
      have BL2:Aside (Blocks lt (2*B) d.size d.size d1):=(Half.step HF.o hdk3.symm HA.o zj zg (.inr ⟨rfl,zj⟩) PM1 SO1).end_all;have PM2:Aside (PermIn 0 d.size d d1):=permIn_trans _ _ _ _ _ PM.o (permIn_mono dk3 d1 _ _ _ _ (vM _) zg zj PM1);clear S_1 PM1 SO1 HF PM S1 HA;go_wp2;go_roundg (d.size - 2*B)
      case measure=>omega
      case rel=>exact ⟨2*B,d1,ye,zj,vB _,hd1,BL2,PM2,S2⟩
     have q2:decide ((a:Int)+(B:Int)<(d.size:Int))=false:=zq;have BL2:Aside (Blocks lt (2*B) d.size d.size dk3):=HF.o.end_ HA.o zj;clear HF HA;go_wp2;go_roundg (d.size - 2*B)
     case measure=>omega
     case rel=>exact ⟨2*B,dk3,ye,zj,vB _,hdk3,BL2,PM,S1⟩
   have q1:decide ((B:Int)<(d.size:Int))=false:=zq;go_wp2;go_end0;exact ⟨rfl,dk2,⟨PM.o,BL.o.all zj⟩,S1.o⟩
end
section
open Go.Shelf Go.RowKit Go.Lib Go.Sort
def Mm:Ren:=⟨fun | 20=>256 | n=>n,fun | 0=>0 | 3=>3 | 4=>4 | 22=>25 | 24=>61 | 25=>228 | n=>n,fun n=>n⟩
theorem IY:SlLaysF0.n20 prog Mm where
 mixed:=zo
 f20:=⟨ "slices.insertionSortCmpFunc[concordat/api.Op]",zo,func256.trans (congrArg some zo)⟩
 t0:=underlying0
 a0:=isAgg0
 z0:=sizeOf0
 v0:=zeroValue0
 t3:=underlying3
 a3:=isAgg3
 z3:=sizeOf3
 v3:=zeroValue3
 t4:=underlying4
 a4:=isAgg4
 z4:=sizeOf4
 v4:=zeroValue4
 t22:=underlying25
 a22:=isAgg25
 z22:=sizeOf25
 v22:=zeroValue25
 t25:=underlying228
 a25:=isAgg228
 z25:=sizeOf228
 v25:=zeroValue228
theorem MA {off:Nat} (R:RowK lB 8 w0 blk off d0) (cap a b:Nat) (d:Array (OpX×Nat)) (w:World) (hs:d0.size=d.size) (S:SWK lB 8 w0 blk off d w) (hab:a<=b) (hb:b<=d.size) (hsz:d.size<4611686018427387904) (ht:∀p q,a<=p->p<q->q<b->d[p]!.2<d[q]!.2):
  BH prog ltX 8 lB 133 w0 blk off cap a b d w:=by
 have I:=BT sA d a b hab hb ht;rw [<-EE] at I;unfold BH;refine (AnyQ.insertionSortCmpFunc IY 8 isAgg61 sizeOf61 lB R.hk R.h1 Jv 133 #[] blk off cap a b d w JH (AH blk off d.size w) (S.holds R.hblk R.hH hs.symm) (S.lt R.hblk) hab hb hsz).mono ?_;rintro e w' ⟨rfl,n,os,rfl⟩;exact ⟨rfl,_,I,S.on R.hblk n _ os I.1.1⟩
theorem Fn {off:Nat} (R:RowK lB 8 w0 blk off d0):KQ prog ltX 8 lB Jv 133 w0 blk off d0:=
 ⟨Hx,func337,func307,func257,R,Fu,sA,JH,AH blk off d0.size w0⟩
theorem mo (w:World) (blk off cap:Nat) (d:Array (OpX×Nat)) (R:RowK lB 8 w blk off d) (ht:∀p,p<d.size->d[p]!.2=p) (hsz:d.size<1152921504606846976):
  Calls prog 132 #[.slice (some ⟨blk,off,none⟩) d.size cap,.func (.func 133) #[] #[]] w fun e w'=>e= .returned (.tuple #[])/\∃d',(PermIn 0 d.size d d'/\SortedIn (slt ltX) 0 d.size d')/\SWK lB 8 w blk off d' w':=by
 have eS:∀args w,(callFunc 197 args).run prog w= .ok (.enter 197 args) w:=enters_of func197 zo rfl;have eI:∀args w,(callFunc 256 args).run prog w= .ok (.enter 256 args) w:=enters_of func256 zo rfl;have C:=sf (Fn R) cap d w func197 eI (MA R cap) rfl (SWK.start R.hH) ht hsz;have CA:Aside _:=C;clear C eI ht;go_enter func132,ntmps132;go_wp2_with fail;refine Calls.mono CA.o ?_;rintro e w' ⟨rfl,d',hd,S⟩;have S2:Aside (SWK lB 8 w blk off d' w'):=S;have H2:Aside (PermIn 0 d.size d d'/\SortedIn (slt ltX) 0 d.size d'):=hd;clear S hd CA;go_wp2;go_end0;exact ⟨rfl,d',H2.o,S2.o⟩
end
section
open Go.Shelf Go.RowKit Go.Lib Go.Sort
def IL:Ren:=⟨fun | 41=>120 | n=>n,fun | 4=>4 | 22=>25 | 23=>61 | n=>n,fun n=>n⟩
theorem nG:SlLaysE0.n41 prog IL where
 mixed:=zo
 f41:=⟨ "slices.Clone[[]concordat/api.Op,concordat/api.Op]",zo,func120.trans (congrArg some zo)⟩
 t4:=underlying4
 a4:=isAgg4
 z4:=sizeOf4
 v4:=zeroValue4
 t22:=underlying25
 a22:=isAgg25
 z22:=sizeOf25
 v22:=zeroValue25
theorem BO (w:World) (b off c:Nat) (xs:List OpX) (hn:xs.length<=1000) (hc:∀j u,(cellsOf xs)[j]? =some u->w.cell? ⟨b,off+j,none⟩=some u):
  Calls prog 120 #[.slice (some ⟨b,off,none⟩) xs.length c] w fun e w'=>∃v',e= .returned v'/\w'.ownsRow w.heap.size 61 8 v' xs.length (cellsOf xs)/\v'≠ .slice none 0 0/\Below w.heap.size w w':=by
 obtain ⟨i0,hi,hz0,hz1,hz2⟩:=info_parts fw;exact AnyE.slices_Clone nG i0 _ 8 80 hi hz0 hz1 hz2 rfl zj sizeOf61 b off xs.length c (cellsOf xs) w (aD xs) zA zj hc (bJ xs)
theorem DR (w:World):Calls prog 120 #[.slice none 0 0] w fun e w'=>e= .returned (.slice none 0 0)/\w'=w:=
 AnyE.slices_Clone_nil nG 0 0 w
def dO (xs:List OpX):Array (OpX×Nat):=xs.zipIdx.toArray
theorem bN (xs:List OpX):(dO xs).size=xs.length:=by simp [dO]
theorem ri (xs:List OpX) (i:Nat) (hi:i<xs.length):(dO xs)[i]! =(xs[i]!,i):=by
 rw [getElem!_pos _ i (by rw [bN];exact hi),getElem!_pos xs i hi];simp [dO]
theorem NW {base cap:Nat} {xs:List OpX} (hn:n=xs.length) (h:w.ownsRow base 61 8 (.slice (some ⟨g,0,none⟩) n cap) n (cellsOf xs)):RowK lB 8 w g 0 (dO xs) where
 hk:=Gi
 h1:=fL
 hblk:=(h.lt g rfl).2
 hH:=fun j hj=>by
  rw [size_flatK,bN] at hj;have h1:j / 8<xs.length:=zj;have h2:j / 8*8+j % 8=j:=zj;refine ⟨?_,yX⟩;rw [vQ,h.cellAt j zj,get_flatK _ _ _ _ (by rw [bN];exact hj),ri xs _ h1];have:=bd xs (j / 8) (j % 8) h1 zj;rw [h2] at this;exact this
end
section
open Go.Shelf Go.RowKit Go.Lib Go.Sort
theorem below_grow {os:Array Obj} (h:Below B w0 w) (hB:B<=w.heap.size):Below B w0 (grow w os):=
 ⟨h.os,h.tape,h.output,by rw [Go.Sort.size_grow];exact vI h.size (Nat.le_add_right _ _),fun k hk=>by
  rw [<-h.block k hk]
  simp only [grow]
  rw [Array.getElem?_append_left zj]⟩
theorem rB (h:Below B w0 w) (hg:B<=g) (hB:B<=w.heap.size) (S:SWK lB 8 w g 0 d w'):Below B w0 w':=by
 obtain ⟨n,os,rfl⟩:=S;unfold sortWorldK putRowK;exact below_grow (below_putRow h hg) (by show B<=(putRow id _ g 0 _).heap.size;simpa [putRow,mapBlock,Sort.ahead] using hB)
theorem Fc (R:RowK lB 8 w g 0 d) (hs:d'.size=d.size) (S:SWK lB 8 w g 0 d' w') (j:Nat) (u:Value) (hj:(cellsOf (d'.toList.map Prod.fst))[j]? =some u):w'.cell? ⟨g,0+j,none⟩=some u:=by
 have H:=S.holds R.hblk R.hH hs;have hl:j<(cellsOf (d'.toList.map Prod.fst)).length:=(vA.1 hj).1;rw [aD,ul,uv] at hl;have h1:j / 8<d'.size:=zj;have h2:j / 8*8+j % 8=j:=zj;have c:=bd (d'.toList.map Prod.fst) (j / 8) (j % 8) ja zj;rw [h2,hj] at c;have H1:=(H j qR).1;rw [get_flatK _ _ _ _ zj] at H1
 have e:lB d'[j / 8]! =bq (d'.toList.map Prod.fst)[j / 8]! :=by
  rw [getElem!_pos d' (j / 8) h1,getElem!_pos (d'.toList.map Prod.fst) (j / 8) ja];simp [lB]
 rw [H1,c,<-e];rfl
def cY (xs ys:List OpX):Prop:=∃d':Array (OpX×Nat),(PermIn 0 xs.length (dO xs) d'/\SortedIn (slt ltX) 0 xs.length d')/\ys=d'.toList.map Prod.fst
theorem Ko (fv:Value) (w:World):Calls prog 256 #[.slice none 0 0,.int .i64 0,.int .i64 0,fv] w fun e w'=>e= .returned (.tuple #[])/\w'=w:=by
 go_enter func256,ntmps256;go_wp2;refine wp_loop_rounds 1 ?_;rw [rounds_succ];go_wp2;go_end0;exact kl3
theorem CU (g:Nat) (w:World):Calls prog 197 #[.slice none 0 0,.int .i64 0,.func (.func g) #[] #[]] w fun e w'=>e= .returned (.tuple #[])/\w'=w:=by
 go_enter func197,ntmps197;go_wp2;refine wp_loop_rounds 1 ?_;rw [rounds_succ];go_wp2_with fail;refine (Ko _ _).mono ?_;rintro e w' ⟨rfl,rfl⟩;go_wp2;refine wp_loop_rounds 1 ?_;rw [rounds_succ];go_wp2;go_end0;exact kl3
theorem ml (g:Nat) (w:World):Calls prog 132 #[.slice none 0 0,.func (.func g) #[] #[]] w fun e w'=>e= .returned (.tuple #[])/\w'=w:=by
 go_enter func132,ntmps132;go_wp2_with fail;refine (CU _ _).mono ?_;rintro e w' ⟨rfl,rfl⟩;go_wp2;go_end0;exact kl3
theorem Ad (w:World) (v:Value) (xs:List OpX) (h:OpsAt w v xs) (hn:xs.length<=1000):
  Calls prog 72 #[v] w fun e w'=>∃v' ys,e= .returned v'/\OpsAt w' v' ys/\cY xs ys/\Below w.heap.size w w'/\∀g,v'.ownBlock=some g->w.heap.size<=g:=by
 rcases h with ⟨rfl,rfl⟩ | ⟨blk,off,cap,rfl,hc⟩
 ·go_enter func72,ntmps72;go_wp2_with fail;refine (DR _).mono ?_;rintro e w' ⟨rfl,rfl⟩;go_wp2_with fail;refine (ml _ _).mono ?_;rintro e w1 ⟨rfl,rfl⟩;go_wp2;go_ret;exact ⟨_,[],rfl,.inl ⟨rfl,rfl⟩,⟨#[],⟨permIn_refl _ _ _,fun i j _ _ hj=>absurd hj zt⟩,rfl⟩,vG _ _,fun g hg=>jl⟩
 have HC:Aside (∀j u,(cellsOf xs)[j]? =some u->w.cell? ⟨blk,off+j,none⟩=some u):=hc;clear hc;go_enter func72,ntmps72;go_wp2_with fail;refine (BO w blk off cap xs hn HC.o).mono ?_;clear HC;rintro e w1 ⟨v1,rfl,hown,hnil,hb⟩
 obtain ⟨g,c1,rfl,hg⟩:∃g c1,v1= .slice (some ⟨g,0,none⟩) xs.length c1/\w.heap.size<=g:=by
  rcases hown.2 with ⟨h1,_⟩ | ⟨g,c1,cur,h1,h2,_⟩
  ·exact absurd h1 hnil
  exact ⟨g,c1,h1,h2⟩
 have R0:Aside (RowK lB 8 w1 g 0 (dO xs)):=NW rfl hown;have HB:Aside (Below w.heap.size w w1):=hb;clear hown hnil hb;go_wp2_with fail;have C:=mo w1 g 0 c1 (dO xs) R0.o (fun p hp=>by rw [ri xs p (by rw [bN] at hp;exact hp)]) (by rw [bN];omega);rw [bN] at C;refine C.mono ?_;clear C;rintro e w2 ⟨rfl,d',hd,S⟩
 have hl:d'.size=xs.length:=by rw [hd.1.1,bN]
 have hl2:(d'.toList.map Prod.fst).length=xs.length:=by rw [ul,uv];exact hl
 have F:Aside (OpsAt w2 (.slice (some ⟨g,0,none⟩) xs.length c1) (d'.toList.map Prod.fst)/\cY xs (d'.toList.map Prod.fst)/\Below w.heap.size w w2):=
  ⟨.inr ⟨g,0,c1,by rw [hl2],fun j u hj=>Fc R0.o (by rw [hl,bN]) S j u hj⟩,⟨d',hd,rfl⟩,rB HB.o hg HB.o.size S⟩
 clear hd S R0 HB hl hl2;go_wp2;go_ret;exact ⟨_,_,rfl,F.o.1,F.o.2.1,F.o.2.2,fun g' hg'=>by cases hg';exact hg⟩
end
section
open Go.Shelf Go.RowKit Go.Lib Go.Sort
theorem tG (h:PermIn 0 d.size d d'):d.toList.Perm d'.toList:=by
 have h2:=h.2.2;have e:d'.size=d.size:=h.1
 have e1:d'.toList.take d.size=d'.toList:=by rw [<-e,<-uv,uU]
 have e2:d.toList.take d.size=d.toList:=by rw [<-uv,uU]
 first
  | simpa using h2
  | (simp at h2;rw [e1] at h2;exact h2)
  | (simp at h2;rw [e1] at h2;exact h2.symm)
end
section
open Go.Shelf Go.RowKit Go.Lib Go.Sort
end
section
open Go.Shelf Go.RowKit Go.Lib Go.Sort
end
section
open Go.Shelf Go.RowKit Go.Lib Go.Sort
end
section
open Go.Shelf Go.RowKit Go.Lib Go.Sort
end
section
open Go.Shelf Go.RowKit Go.Lib Go.Sort
