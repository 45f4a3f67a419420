import Derived.Test.YtebpcnkdhgnghaaGreatDoorPM06
set_option linter.unusedSimpArgs false
set_option linter.unusedVariables false
set_option maxRecDepth 100000
set_option maxHeartbeats 64000000
section
namespace Go.Proofs.YtebpcnkdhgnghaaGreatDoor
open Go.Proofs.Tryz
open Go.RowKit
theorem BK (s:ByteArray):bC s.data.toList=(s.data.toList.all cV &&(decide (1<=(s.size:Int)) &&decide ((s.size:Int)<=12))):=by
 have hl:s.data.toList.length=s.size:=zt;unfold bC;rw [hl,Bool.and_comm];congr 2
 ·rw [decide_eq_decide];omega
 rw [decide_eq_decide];omega
theorem Dr (s:ByteArray) (w:World) (hs:s.size<=1000000):
  Calls prog 63 #[.string s] w fun e w'=>e= .returned (.bool (bC s.data.toList))/\w'=w:=by
 rw [BK];generalize hR:s.data.toList.all cV=R;have HR:=Lib.hid hR;clear hR;generalize hQ:(R &&(decide (1<=(s.size:Int)) &&decide ((s.size:Int)<=12)))=Q;have HQ:=Lib.hid hQ;clear hQ;go_enter func63,ntmps63;go_wp2;go_loop [3] (fun i=>∃k:Nat,k<=s.size/\i= .int .i64 k/\Hid ((s.data.toList.drop k).all cV=R)) (fun i=>s.size - (intOf i).toNat)
 case atStart=>exact ⟨0,vM _,rfl,Lib.hid qw⟩
 case round=>
  obtain ⟨k,hk,rfl,HD⟩:=hrel;by_cases hlt:k<s.size
  ·have hd:decide ((k:Int)<(s.size:Int))=true:=by simp;omega
   have HA:=Lib.hid ((wq s cV k hlt).symm.trans HD.o);clear HD
   rcases (by omega:122<s[k].toNat\/(97<=s[k].toNat/\s[k].toNat<=122)\/(57<s[k].toNat/\s[k].toNat<97)\/(48<=s[k].toNat/\s[k].toNat<=57)\/s[k].toNat=46\/s[k].toNat=45\/(s[k].toNat<48/\s[k].toNat≠46/\s[k].toNat≠45)) with h | h | h | h | h | h | h
   ·have hb:cV s[k]=false:=by unfold cV;rw [decide_eq_false zj]
    have d1:decide ((s[k].toNat:Int)<=122)=false:=zq;have d0:decide (97<=(s[k].toNat:Int))=true:=zq;have d3:decide (48<=(s[k].toNat:Int))=true:=zq;have d2:decide ((s[k].toNat:Int)<=57)=false:=zq;exact kc2
   ·have hb:cV s[k]=true:=by unfold cV;rw [decide_eq_true zj]
    have d0:decide (97<=(s[k].toNat:Int))=true:=zq;have d1:decide ((s[k].toNat:Int)<=122)=true:=zq;have HE:Hid ((s.data.toList.drop (k+1)).all cV=R):=Lib.hid zY;clear hb h;go_wp2;go_round
    case rel=>exact ⟨k+1,zj,zw,HE⟩
    case measure=>simp [intOf];omega
   ·have hb:cV s[k]=false:=by unfold cV;rw [decide_eq_false zj]
    have d0:decide (97<=(s[k].toNat:Int))=false:=zq;have d3:decide (48<=(s[k].toNat:Int))=true:=zq;have d2:decide ((s[k].toNat:Int)<=57)=false:=zq;exact kc2
   ·have hb:cV s[k]=true:=by unfold cV;rw [decide_eq_true zj]
    have d0:decide (97<=(s[k].toNat:Int))=false:=zq;have d3:decide (48<=(s[k].toNat:Int))=true:=zq;have d2:decide ((s[k].toNat:Int)<=57)=true:=zq;have HE:Hid ((s.data.toList.drop (k+1)).all cV=R):=Lib.hid zY;clear hb h;go_wp2;go_round
    case rel=>exact ⟨k+1,zj,zw,HE⟩
    case measure=>simp [intOf];omega
   ·have hb:cV s[k]=true:=by unfold cV;rw [decide_eq_true zj]
    have d0:decide (97<=(s[k].toNat:Int))=false:=zq;have d3:decide (48<=(s[k].toNat:Int))=false:=zq;have e1:((s[k].toNat:Int)==45)=false:=zq;have e2:((s[k].toNat:Int)==46)=true:=zq;have HE:Hid ((s.data.toList.drop (k+1)).all cV=R):=Lib.hid zY;clear hb h;go_wp2;go_round
    case rel=>exact ⟨k+1,zj,zw,HE⟩
    case measure=>simp [intOf];omega
   ·have hb:cV s[k]=true:=by unfold cV;rw [decide_eq_true zj]
    have d0:decide (97<=(s[k].toNat:Int))=false:=zq;have d3:decide (48<=(s[k].toNat:Int))=false:=zq;have e1:((s[k].toNat:Int)==45)=true:=zq;have HE:Hid ((s.data.toList.drop (k+1)).all cV=R):=Lib.hid zY;clear hb h;go_wp2;go_round
    case rel=>exact ⟨k+1,zj,zw,HE⟩
    case measure=>simp [intOf];omega
   have hb:cV s[k]=false:=by unfold cV;rw [decide_eq_false zj]
   have d0:decide (97<=(s[k].toNat:Int))=false:=zq;have d3:decide (48<=(s[k].toNat:Int))=false:=zq;exact kc2
  have hd:decide ((k:Int)<(s.size:Int))=false:=zq;have HE:Hid (R=true):=Lib.hid vu;by_cases h1:1<=s.size
  ·have d1:decide (1<=(s.size:Int))=true:=by simp;omega
   go_wp2;go_ret;exact ⟨by rw [<-HQ.o,HE.o,d1];rfl,rfl⟩
  have d1:decide (1<=(s.size:Int))=false:=zq;go_wp2;go_ret;exact ⟨by rw [<-HQ.o,HE.o,d1];rfl,rfl⟩
theorem DX (s:ByteArray) (w:World) (hs:s.size<=1000000):
  Calls prog 64 #[.string s] w fun e w'=>e= .returned (.bool (dD s.data.toList))/\w'=w:=by
 unfold dD;generalize hR:s.data.toList.all gw=R;have HR:=Lib.hid hR;clear hR;go_enter func64,ntmps64;go_wp2;go_loop [3] (fun i=>∃k:Nat,k<=s.size/\i= .int .i64 k/\Hid ((s.data.toList.drop k).all gw=R)) (fun i=>s.size - (intOf i).toNat)
 case atStart=>exact ⟨0,vM _,rfl,Lib.hid qw⟩
 case round=>
  obtain ⟨k,hk,rfl,HD⟩:=hrel;by_cases hlt:k<s.size
  ·have hd:decide ((k:Int)<(s.size:Int))=true:=by simp;omega
   have HA:=Lib.hid ((wq s gw k hlt).symm.trans HD.o);clear HD;by_cases g1:s[k].toNat<32
   ·have l1:decide ((s[k].toNat:Int)<32)=true:=by simp;omega
    exact kb4
   have l1:decide ((s[k].toNat:Int)<32)=false:=zq;by_cases g2:126<s[k].toNat
   ·have l2:decide (126<(s[k].toNat:Int))=true:=by simp;omega
    exact kb4
   have l2:decide (126<(s[k].toNat:Int))=false:=zq
   have HE:Hid ((s.data.toList.drop (k+1)).all gw=R):=Lib.hid (by
    have:=HA.o
    rw [show gw s[k]=true by unfold gw;rw [decide_eq_true zj],Bool.true_and] at this
    exact this)
   go_wp2;go_round
   case rel=>exact ⟨k+1,zj,zw,HE⟩
   case measure=>simp [intOf];omega
  exact kd3
end Go.Proofs.YtebpcnkdhgnghaaGreatDoor
namespace Go.Proofs.YtebpcnkdhgnghaaGreatDoor
open Go.Proofs.Tryz
open Go.RowKit
theorem cr (t b:Int) (w:World) (h1:1<=t) (h2:t<=1073741824) (h3:0<=b) (h4:b<4):
  Calls prog 62 #[.agg #[.int .i64 t,.int .i64 b]] w fun e w'=>e= .returned (.int .i64 0)/\Below w.heap.size w w':=by
 go_enter func62,ntmps62;exact kb8
theorem pP (t b:Int) (w:World) (h:¬(1<=t/\t<=1073741824/\0<=b/\b<4)):
  Calls prog 62 #[.agg #[.int .i64 t,.int .i64 b]] w fun e w'=>e= .returned (.int .i64 2)/\Below w.heap.size w w':=by
 by_cases h1:1<=t
 ·by_cases h2:t<=1073741824
  ·by_cases h3:0<=b
   ·have h4:4<=b:=by omega
    clear h;go_enter func62,ntmps62;exact kb8
   have h4:b<0:=zj;clear h h3;go_enter func62,ntmps62;exact kb8
  have h4:1073741824<t:=zj;clear h h2;go_enter func62,ntmps62;exact kb8
 have h4:t<1:=zj;clear h h1;go_enter func62,ntmps62;exact kb8
theorem fC (t b:Int) (w:World) (h1:1<=t) (h2:t<=1073741824) (h3:0<=b) (h4:b<4):
  Calls prog 30 #[.agg #[.int .i64 t,.int .i64 b]] w fun e w'=>e= .returned (.int .i64 (4*t+b))/\Below w.heap.size w w':=by
 go_enter func30,ntmps30;go_wp2_with fail;refine (cr t b _ h1 h2 h3 h4).mono ?_;rintro e w1 ⟨rfl,hb⟩;obtain ⟨hc,hf⟩:=EB hb;go_wp2;go_ret;exact ki8
end Go.Proofs.YtebpcnkdhgnghaaGreatDoor
namespace Go.Proofs.YtebpcnkdhgnghaaGreatDoor
open Go.Proofs.Tryz
open Go.RowKit
theorem ox (s:ByteArray) (b:Bool) (w:World) (hs:s.size<=1000000) (h:bC s.data.toList=b):
  Calls prog 63 #[.string s] w fun e w'=>e= .returned (.bool b)/\w'=w:=by rw [<-h];exact Dr s w hs
theorem oZ (s:ByteArray) (b:Bool) (w:World) (hs:s.size<=1000000) (h:dD s.data.toList=b):
  Calls prog 64 #[.string s] w fun e w'=>e= .returned (.bool b)/\w'=w:=by rw [<-h];exact DX s w hs
theorem Du (t b n:Int) (k:Nat) (node other:Int) (name value:ByteArray) (w:World) (_hsn:name.size<=1000000) (_hsv:value.size<=1000000) (hst:¬(1<=t/\t<=1073741824/\0<=b/\b<4)):
  Calls prog 25 #[.agg #[.int .i64 t,.int .i64 b,.int .i64 n,.int .u8 (k:Int),.int .i64 node,.int .i64 other,.string name,.string value]] w fun e w'=>e= .returned (.int .i64 ((opE t b n k node other name.data.toList value.data.toList:Nat):Int))/\Below w.heap.size w w':=by
 have O0:=OpAt.new w t b n k node other name value 61;have B0:Below w.heap.size w (w.alloc (.cells #[.int .i64 t,.int .i64 b,.int .i64 n,.int .u8 (k:Int),.int .i64 node,.int .i64 other,.string name,.string value] 61)):=zh _ _;have hln:=bR name;have hlv:=bR value;have HS:=Lib.hid hst;have hcode:opE t b n k node other name.data.toList value.data.toList=2:=xm;rw [hcode];clear hst;clear hcode hln hlv;go_enter func25,ntmps25;go_wp2_with fail
 generalize w.alloc (.cells #[.int .i64 t,.int .i64 b,.int .i64 n,.int .u8 (k:Int),.int .i64 node,.int .i64 other,.string name,.string value] 61)=u at O0 B0 |-
 refine (pP _ _ _ HS.o).mono ?_;rintro e w1 ⟨rfl,hb⟩;have O1:=O0.later hb;have B1:Below w.heap.size w w1:=zi B0 hb;clear hb O0 B0;obtain ⟨x0,x1,x2,x3,x4,x5,x6,x7⟩:=id O1;exact ko2
theorem OI (t b n:Int) (k:Nat) (node other:Int) (name value:ByteArray) (w:World) (_hsn:name.size<=1000000) (_hsv:value.size<=1000000) (hst:1<=t/\t<=1073741824/\0<=b/\b<4) (hn:n<1\/400<n):
  Calls prog 25 #[.agg #[.int .i64 t,.int .i64 b,.int .i64 n,.int .u8 (k:Int),.int .i64 node,.int .i64 other,.string name,.string value]] w fun e w'=>e= .returned (.int .i64 ((opE t b n k node other name.data.toList value.data.toList:Nat):Int))/\Below w.heap.size w w':=by
 have O0:=OpAt.new w t b n k node other name value 61;have B0:Below w.heap.size w (w.alloc (.cells #[.int .i64 t,.int .i64 b,.int .i64 n,.int .u8 (k:Int),.int .i64 node,.int .i64 other,.string name,.string value] 61)):=zh _ _;have hln:=bR name;have hlv:=bR value;obtain ⟨s1,s2,s3,s4⟩:=hst
 rcases hn with h | h
 ·have d1:decide (n<1)=true:=by simp;omega
  exact kc0
 have d1:decide (n<1)=false:=zq;have d2:decide (400<n)=true:=zq;exact kc0
theorem OQ (t b n:Int) (k:Nat) (node other:Int) (name value:ByteArray) (w:World) (hsn:name.size<=1000000) (_hsv:value.size<=1000000) (hst:1<=t/\t<=1073741824/\0<=b/\b<4) (hn:1<=n/\n<=400) (hk:k=109):
  Calls prog 25 #[.agg #[.int .i64 t,.int .i64 b,.int .i64 n,.int .u8 (k:Int),.int .i64 node,.int .i64 other,.string name,.string value]] w fun e w'=>e= .returned (.int .i64 ((opE t b n k node other name.data.toList value.data.toList:Nat):Int))/\Below w.heap.size w w':=by
 have O0:=OpAt.new w t b n k node other name value 61;have B0:Below w.heap.size w (w.alloc (.cells #[.int .i64 t,.int .i64 b,.int .i64 n,.int .u8 (k:Int),.int .i64 node,.int .i64 other,.string name,.string value] 61)):=zh _ _;have hln:=bR name;have hlv:=bR value;obtain ⟨s1,s2,s3,s4⟩:=hst;have d1:decide (n<1)=false:=zq;have d2:decide (400<n)=false:=zq
 have hop:opE t b n k node other name.data.toList value.data.toList=bK (t*4+b) node other name.data.toList value.data.toList:=by
  unfold opE fO;rw [if_pos zj];rw [if_pos hk]
 rw [hop];clear hop;have r109:((k:Int)==109)=true:=zq;clear hk;by_cases hsh:node<2\/t*4+b<node\/other<0\/t*4+b<=other
 ·have hc:(node<2)\/(¬(node<2)/\t*4+b<node)\/(¬(node<2)/\¬(t*4+b<node)/\other<0)\/(¬(node<2)/\¬(t*4+b<node)/\¬(other<0)/\t*4+b<=other):=by omega
  rcases hc with h | h | h | h
  ·have hx:=h;have hcode:bK (t*4+b) node other name.data.toList value.data.toList=3:=qu;rw [hcode];have q0:decide (node<2)=true:=zq;clear hsh h hx;exact ka0
  ·have hx:=h;have hcode:bK (t*4+b) node other name.data.toList value.data.toList=3:=qu;rw [hcode];have q0:decide (node<2)=false:=zq;have q1:decide ((4*t+b)<node)=true:=zq;clear hsh h hx;exact ka0
  ·have hx:=h;have hcode:bK (t*4+b) node other name.data.toList value.data.toList=3:=qu;rw [hcode];have q0:decide (node<2)=false:=zq;have q1:decide ((4*t+b)<node)=false:=zq;have q2:decide (other<0)=true:=zq;clear hsh h hx;exact ka0
  have hx:=h;have hcode:bK (t*4+b) node other name.data.toList value.data.toList=3:=qu;rw [hcode];have q0:decide (node<2)=false:=zq;have q1:decide ((4*t+b)<node)=false:=zq;have q2:decide (other<0)=false:=zq;have q3:decide ((4*t+b)<=other)=true:=zq;clear hsh h hx;exact ka1
 have q0:decide (node<2)=false:=zq;have q1:decide ((4*t+b)<node)=false:=zq;have q2:decide (other<0)=false:=zq;have q3:decide ((4*t+b)<=other)=false:=zq
 cases hn2:bC name.data.toList with
 | false=>
  have hcode:bK (t*4+b) node other name.data.toList value.data.toList=4:=by unfold bK;rw [if_neg hsh,if_pos hn2]
  rw [hcode];clear hsh;exact ka1
 | true=>
  by_cases hv:value.data.toList= []
  ·have e1:=ct hv
   have hcode:bK (t*4+b) node other name.data.toList value.data.toList=0:=by unfold bK;rw [if_neg hsh,if_neg yG,if_neg qN]
   rw [hcode];clear hsh hv;exact ka1
  have e1:=dJ hv
  have hcode:bK (t*4+b) node other name.data.toList value.data.toList=3:=by unfold bK;rw [if_neg hsh,if_neg yG,if_pos hv]
  rw [hcode];clear hsh hv;exact ka2
theorem Nn (t b n:Int) (k:Nat) (node other:Int) (name value:ByteArray) (w:World) (_hsn:name.size<=1000000) (hsv:value.size<=1000000) (hst:1<=t/\t<=1073741824/\0<=b/\b<4) (hn:1<=n/\n<=400) (hk:k=105):
  Calls prog 25 #[.agg #[.int .i64 t,.int .i64 b,.int .i64 n,.int .u8 (k:Int),.int .i64 node,.int .i64 other,.string name,.string value]] w fun e w'=>e= .returned (.int .i64 ((opE t b n k node other name.data.toList value.data.toList:Nat):Int))/\Below w.heap.size w w':=by
 have O0:=OpAt.new w t b n k node other name value 61;have B0:Below w.heap.size w (w.alloc (.cells #[.int .i64 t,.int .i64 b,.int .i64 n,.int .u8 (k:Int),.int .i64 node,.int .i64 other,.string name,.string value] 61)):=zh _ _;have hln:=bR name;have hlv:=bR value;obtain ⟨s1,s2,s3,s4⟩:=hst;have d1:decide (n<1)=false:=zq;have d2:decide (400<n)=false:=zq
 have hop:opE t b n k node other name.data.toList value.data.toList=fE (t*4+b) node other name.data.toList value.data.toList:=by
  unfold opE fO;rw [if_pos zj];rw [if_neg (show ¬k=109 by omega)];rw [if_pos hk]
 rw [hop];clear hop;have r109:((k:Int)==109)=false:=zq;have r105:((k:Int)==105)=true:=zq;have r100:((k:Int)==100)=false:=zq;clear hk;by_cases hsh:node<0\/t*4+b<=node\/other<0\/t*4+b<=other
 ·have hc:(node<0)\/(¬(node<0)/\t*4+b<=node)\/(¬(node<0)/\¬(t*4+b<=node)/\other<0)\/(¬(node<0)/\¬(t*4+b<=node)/\¬(other<0)/\t*4+b<=other):=by omega
  rcases hc with h | h | h | h
  ·have hx:=h;have hcode:fE (t*4+b) node other name.data.toList value.data.toList=3:=qB;rw [hcode];have q0:decide (node<0)=true:=zq;clear hsh h hx;exact ka0
  ·have hx:=h;have hcode:fE (t*4+b) node other name.data.toList value.data.toList=3:=qB;rw [hcode];have q0:decide (node<0)=false:=zq;have q1:decide ((4*t+b)<=node)=true:=zq;clear hsh h hx;exact ka0
  ·have hx:=h;have hcode:fE (t*4+b) node other name.data.toList value.data.toList=3:=qB;rw [hcode];have q0:decide (node<0)=false:=zq;have q1:decide ((4*t+b)<=node)=false:=zq;have q2:decide (other<0)=true:=zq;clear hsh h hx;exact ka0
  have hx:=h;have hcode:fE (t*4+b) node other name.data.toList value.data.toList=3:=qB;rw [hcode];have q0:decide (node<0)=false:=zq;have q1:decide ((4*t+b)<=node)=false:=zq;have q2:decide (other<0)=false:=zq;have q3:decide ((4*t+b)<=other)=true:=zq;clear hsh h hx;exact ka1
 have q0:decide (node<0)=false:=zq;have q1:decide ((4*t+b)<=node)=false:=zq;have q2:decide (other<0)=false:=zq;have q3:decide ((4*t+b)<=other)=false:=zq;by_cases hn2:name.data.toList= []
 ·have e1:=ct hn2;by_cases hv:value.size=1
  ·have e2:((value.size:Int) !=1)=false:=by simp;omega
   cases hp:dD value.data.toList with
   | false=>
    have hcode:fE (t*4+b) node other name.data.toList value.data.toList=3:=by unfold fE;rw [if_neg hsh,if_neg yG,if_pos (.inr hp)]
    rw [hcode];clear hsh hn2 hv;exact ka1
   | true=>
    have hcode:fE (t*4+b) node other name.data.toList value.data.toList=0:=by unfold fE;rw [if_neg hsh,if_neg yG,if_neg qL]
    rw [hcode];clear hsh hn2 hv;exact ka1
  have e2:((value.size:Int) !=1)=true:=zq
  obtain ⟨sb,hp⟩:∃sb,dD value.data.toList=sb:=⟨_,rfl⟩
  have hcode:fE (t*4+b) node other name.data.toList value.data.toList=3:=by unfold fE;rw [if_neg hsh,if_neg yG,if_pos (.inl zj)]
  rw [hcode];clear hsh hn2 hv;exact ka2
 have e1:=dJ hn2
 have hcode:fE (t*4+b) node other name.data.toList value.data.toList=4:=by unfold fE;rw [if_neg hsh,if_pos hn2]
 rw [hcode];clear hsh hn2;exact ka2
theorem Ng (t b n:Int) (k:Nat) (node other:Int) (name value:ByteArray) (w:World) (_hsn:name.size<=1000000) (hsv:value.size<=1000000) (hst:1<=t/\t<=1073741824/\0<=b/\b<4) (hn:1<=n/\n<=400) (hk:k=100):
  Calls prog 25 #[.agg #[.int .i64 t,.int .i64 b,.int .i64 n,.int .u8 (k:Int),.int .i64 node,.int .i64 other,.string name,.string value]] w fun e w'=>e= .returned (.int .i64 ((opE t b n k node other name.data.toList value.data.toList:Nat):Int))/\Below w.heap.size w w':=by
 have O0:=OpAt.new w t b n k node other name value 61;have B0:Below w.heap.size w (w.alloc (.cells #[.int .i64 t,.int .i64 b,.int .i64 n,.int .u8 (k:Int),.int .i64 node,.int .i64 other,.string name,.string value] 61)):=zh _ _;have hln:=bR name;have hlv:=bR value;obtain ⟨s1,s2,s3,s4⟩:=hst;have d1:decide (n<1)=false:=zq;have d2:decide (400<n)=false:=zq
 have hop:opE t b n k node other name.data.toList value.data.toList=gG (t*4+b) node other name.data.toList value.data.toList:=by
  unfold opE fO;rw [if_pos zj];rw [if_neg (show ¬k=109 by omega)];rw [if_neg (show ¬k=105 by omega)];rw [if_pos hk]
 rw [hop];clear hop;have r109:((k:Int)==109)=false:=zq;have r105:((k:Int)==105)=false:=zq;have r100:((k:Int)==100)=true:=zq;clear hk;by_cases hsh:node<0\/t*4+b<=node\/other<0\/t*4+b<=other\/other=0
 ·have hc:(node<0)\/(¬(node<0)/\t*4+b<=node)\/(¬(node<0)/\¬(t*4+b<=node)/\other<0)\/(¬(node<0)/\¬(t*4+b<=node)/\¬(other<0)/\t*4+b<=other)\/(¬(node<0)/\¬(t*4+b<=node)/\¬(other<0)/\¬(t*4+b<=other)/\other=0):=by omega
  rcases hc with h | h | h | h | h
  ·have hx:=h;have hcode:gG (t*4+b) node other name.data.toList value.data.toList=3:=yV;rw [hcode];have q0:decide (node<0)=true:=zq;clear hsh h hx;exact ka0
  ·have hx:=h;have hcode:gG (t*4+b) node other name.data.toList value.data.toList=3:=yV;rw [hcode];have q0:decide (node<0)=false:=zq;have q1:decide ((4*t+b)<=node)=true:=zq;clear hsh h hx;exact ka0
  ·have hx:=h;have hcode:gG (t*4+b) node other name.data.toList value.data.toList=3:=yV;rw [hcode];have q0:decide (node<0)=false:=zq;have q1:decide ((4*t+b)<=node)=false:=zq;have q2:decide (other<0)=true:=zq;clear hsh h hx;exact ka0
  ·have hx:=h;have hcode:gG (t*4+b) node other name.data.toList value.data.toList=3:=yV;rw [hcode];have q0:decide (node<0)=false:=zq;have q1:decide ((4*t+b)<=node)=false:=zq;have q2:decide (other<0)=false:=zq;have q3:decide ((4*t+b)<=other)=true:=zq;clear hsh h hx;exact ka0
  have hx:=h;have hcode:gG (t*4+b) node other name.data.toList value.data.toList=3:=yV;rw [hcode];have q0:decide (node<0)=false:=zq;have q1:decide ((4*t+b)<=node)=false:=zq;have q2:decide (other<0)=false:=zq;have q3:decide ((4*t+b)<=other)=false:=zq;have q4:(other==0)=true:=zq;clear hsh h hx;exact ka1
 have q0:decide (node<0)=false:=zq;have q1:decide ((4*t+b)<=node)=false:=zq;have q2:decide (other<0)=false:=zq;have q3:decide ((4*t+b)<=other)=false:=zq;have q4:(other==0)=false:=zq;by_cases hn2:name.data.toList= []
 ·have e1:=ct hn2;by_cases hv:value.data.toList= []
  ·have e2:=ct hv
   have hp:dD value.data.toList=true:=by rw [hv];rfl
   have hcode:gG (t*4+b) node other name.data.toList value.data.toList=0:=by unfold gG;rw [if_neg hsh,if_neg yG,if_neg qN]
   rw [hcode];clear hsh hn2 hv;exact ka1
  have e2:=dJ hv
  have hcode:gG (t*4+b) node other name.data.toList value.data.toList=3:=by unfold gG;rw [if_neg hsh,if_neg yG,if_pos hv]
  rw [hcode];clear hsh hn2 hv;exact ka2
 have e1:=dJ hn2
 have hcode:gG (t*4+b) node other name.data.toList value.data.toList=4:=by unfold gG;rw [if_neg hsh,if_pos hn2]
 rw [hcode];clear hsh hn2;exact ka2
theorem Ny (t b n:Int) (k:Nat) (node other:Int) (name value:ByteArray) (w:World) (hsn:name.size<=1000000) (hsv:value.size<=1000000) (hst:1<=t/\t<=1073741824/\0<=b/\b<4) (hn:1<=n/\n<=400) (hk:k=115):
  Calls prog 25 #[.agg #[.int .i64 t,.int .i64 b,.int .i64 n,.int .u8 (k:Int),.int .i64 node,.int .i64 other,.string name,.string value]] w fun e w'=>e= .returned (.int .i64 ((opE t b n k node other name.data.toList value.data.toList:Nat):Int))/\Below w.heap.size w w':=by
 have O0:=OpAt.new w t b n k node other name value 61;have B0:Below w.heap.size w (w.alloc (.cells #[.int .i64 t,.int .i64 b,.int .i64 n,.int .u8 (k:Int),.int .i64 node,.int .i64 other,.string name,.string value] 61)):=zh _ _;have hln:=bR name;have hlv:=bR value;obtain ⟨s1,s2,s3,s4⟩:=hst;have d1:decide (n<1)=false:=zq;have d2:decide (400<n)=false:=zq
 have hop:opE t b n k node other name.data.toList value.data.toList=gI (t*4+b) node other name.data.toList value.data.toList:=by
  unfold opE fO;rw [if_pos zj];rw [if_neg (show ¬k=109 by omega)];rw [if_neg (show ¬k=105 by omega)];rw [if_neg (show ¬k=100 by omega)];rw [if_pos hk]
 rw [hop];clear hop;have r109:((k:Int)==109)=false:=zq;have r105:((k:Int)==105)=false:=zq;have r100:((k:Int)==100)=false:=zq;have r115:((k:Int)==115)=true:=zq;clear hk;by_cases hsh:node<0\/t*4+b<=node\/other≠0
 ·have hc:(node<0)\/(¬(node<0)/\t*4+b<=node)\/(¬(node<0)/\¬(t*4+b<=node)/\other≠0):=by omega
  rcases hc with h | h | h
  ·have hx:=h;have hcode:gI (t*4+b) node other name.data.toList value.data.toList=3:=xU;rw [hcode];have q0:decide (node<0)=true:=zq;clear hsh h hx;exact ka0
  ·have hx:=h;have hcode:gI (t*4+b) node other name.data.toList value.data.toList=3:=xU;rw [hcode];have q0:decide (node<0)=false:=zq;have q1:decide ((4*t+b)<=node)=true:=zq;clear hsh h hx;exact ka0
  have hx:=h;have hcode:gI (t*4+b) node other name.data.toList value.data.toList=3:=xU;rw [hcode];have q0:decide (node<0)=false:=zq;have q1:decide ((4*t+b)<=node)=false:=zq;have q2:(other !=0)=true:=zq;clear hsh h hx;exact ka1
 have q0:decide (node<0)=false:=zq;have q1:decide ((4*t+b)<=node)=false:=zq;have q2:(other !=0)=false:=zq
 cases hn2:bC name.data.toList with
 | false=>
  have hcode:gI (t*4+b) node other name.data.toList value.data.toList=4:=by unfold gI;rw [if_neg hsh,if_pos hn2]
  rw [hcode];clear hsh;exact ka1
 | true=>
  by_cases hv:12<value.size
  ·have e2:decide (12<(value.size:Int))=true:=by simp;omega
   obtain ⟨sb,hp⟩:∃sb,dD value.data.toList=sb:=⟨_,rfl⟩
   have hcode:gI (t*4+b) node other name.data.toList value.data.toList=3:=by unfold gI;rw [if_neg hsh,if_neg yG,if_pos (.inl zj)]
   rw [hcode];clear hsh;exact ka1
  have e2:decide (12<(value.size:Int))=false:=zq
  cases hp:dD value.data.toList with
  | false=>
   have hcode:gI (t*4+b) node other name.data.toList value.data.toList=3:=by unfold gI;rw [if_neg hsh,if_neg yG,if_pos (.inr hp)]
   rw [hcode];clear hsh;exact ka2
  | true=>
   have hcode:gI (t*4+b) node other name.data.toList value.data.toList=0:=by unfold gI;rw [if_neg hsh,if_neg yG,if_neg qL]
   rw [hcode];clear hsh;exact ka2
theorem OU (t b n:Int) (k:Nat) (node other:Int) (name value:ByteArray) (w:World) (_hsn:name.size<=1000000) (_hsv:value.size<=1000000) (hst:1<=t/\t<=1073741824/\0<=b/\b<4) (hn:1<=n/\n<=400) (hk:k≠109/\k≠105/\k≠100/\k≠115):
  Calls prog 25 #[.agg #[.int .i64 t,.int .i64 b,.int .i64 n,.int .u8 (k:Int),.int .i64 node,.int .i64 other,.string name,.string value]] w fun e w'=>e= .returned (.int .i64 ((opE t b n k node other name.data.toList value.data.toList:Nat):Int))/\Below w.heap.size w w':=by
 have O0:=OpAt.new w t b n k node other name value 61;have B0:Below w.heap.size w (w.alloc (.cells #[.int .i64 t,.int .i64 b,.int .i64 n,.int .u8 (k:Int),.int .i64 node,.int .i64 other,.string name,.string value] 61)):=zh _ _;have hln:=bR name;have hlv:=bR value;obtain ⟨s1,s2,s3,s4⟩:=hst;have d1:decide (n<1)=false:=zq;have d2:decide (400<n)=false:=zq;have r109:((k:Int)==109)=false:=zq;have r105:((k:Int)==105)=false:=zq;have r100:((k:Int)==100)=false:=zq;have r115:((k:Int)==115)=false:=zq
 have hcode:opE t b n k node other name.data.toList value.data.toList=5:=by unfold opE fO;rw [if_pos zj,if_neg hk.1,if_neg hk.2.1,if_neg hk.2.2.1,if_neg hk.2.2.2]
 rw [hcode];clear hk;exact ka0
theorem DJ (t b n:Int) (k:Nat) (node other:Int) (name value:ByteArray) (w:World) (hsn:name.size<=1000000) (hsv:value.size<=1000000):
  Calls prog 25 #[.agg #[.int .i64 t,.int .i64 b,.int .i64 n,.int .u8 (k:Int),.int .i64 node,.int .i64 other,.string name,.string value]] w fun e w'=>e= .returned (.int .i64 ((opE t b n k node other name.data.toList value.data.toList:Nat):Int))/\Below w.heap.size w w':=by
 by_cases hst:1<=t/\t<=1073741824/\0<=b/\b<4
 ·by_cases hn:1<=n/\n<=400
  ·by_cases h1:k=109
   ·exact OQ t b n k node other name value w hsn hsv hst hn h1
   by_cases h2:k=105
   ·exact Nn t b n k node other name value w hsn hsv hst hn h2
   by_cases h3:k=100
   ·exact Ng t b n k node other name value w hsn hsv hst hn h3
   by_cases h4:k=115
   ·exact Ny t b n k node other name value w hsn hsv hst hn h4
   exact OU t b n k node other name value w hsn hsv hst hn ⟨h1,h2,h3,h4⟩
  exact OI t b n k node other name value w hsn hsv hst zj
 exact Du t b n k node other name value w hsn hsv hst
