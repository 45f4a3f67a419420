import Derived.Test.YtehighgebbdenaaGreatDoorRa05
set_option maxRecDepth 100000
set_option maxHeartbeats 64000000
section
namespace Go.Proofs.YtehighgebbdenaaGreatDoor
open Go.Proofs.Tryz
open Go.RowKit
theorem BW (s:ByteArray):cQ s.data.toList=(s.data.toList.all cP &&(decide (1<=(s.size:Int)) &&decide ((s.size:Int)<=12))):=by
 have hl:s.data.toList.length=s.size:=zv;unfold cQ;rw [hl,Bool.and_comm];congr 2
 ·rw [decide_eq_decide];omega
 rw [decide_eq_decide];omega
theorem Di (s:ByteArray) (w:World) (hs:s.size<=1000000):
  Calls prog 130 #[.string s] w fun e w'=>e= .returned (.bool (cQ s.data.toList))/\w'=w:=by
 rw [BW];generalize hR:s.data.toList.all cP=R;have HR:=Lib.hid hR;clear hR;generalize hQ:(R &&(decide (1<=(s.size:Int)) &&decide ((s.size:Int)<=12)))=Q;have HQ:=Lib.hid hQ;clear hQ;go_enter func130,ntmps130;go_wp2;go_loop [3] (fun i=>∃k:Nat,k<=s.size/\i= .int .i64 k/\Hid ((s.data.toList.drop k).all cP=R)) (fun i=>s.size - (intOf i).toNat)
 case atStart=>exact ⟨0,vV _,rfl,Lib.hid xz⟩
 case round=>
  obtain ⟨k,hk,rfl,HD⟩:=hrel;by_cases hlt:k<s.size
  ·have hd:decide ((k:Int)<(s.size:Int))=true:=by simp;omega
   have HA:=Lib.hid ((wg s cP k hlt).symm.trans HD.o);clear HD
   rcases (by omega:122<s[k].toNat\/(97<=s[k].toNat/\s[k].toNat<=122)\/(57<s[k].toNat/\s[k].toNat<97)\/(48<=s[k].toNat/\s[k].toNat<=57)\/s[k].toNat=46\/s[k].toNat=45\/(s[k].toNat<48/\s[k].toNat≠46/\s[k].toNat≠45)) with h | h | h | h | h | h | h
   ·have hb:cP s[k]=false:=by unfold cP;rw [decide_eq_false zo]
    have d1:decide ((s[k].toNat:Int)<=122)=false:=zr;have d0:decide (97<=(s[k].toNat:Int))=true:=zr;have d3:decide (48<=(s[k].toNat:Int))=true:=zr;have d2:decide ((s[k].toNat:Int)<=57)=false:=zr;exact kc6
   ·have hb:cP s[k]=true:=by unfold cP;rw [decide_eq_true zo]
    have d0:decide (97<=(s[k].toNat:Int))=true:=zr;have d1:decide ((s[k].toNat:Int)<=122)=true:=zr;have HE:Hid ((s.data.toList.drop (k+1)).all cP=R):=Lib.hid ye;clear hb h;go_wp2;go_round
    case rel=>exact ⟨k+1,zo,zD,HE⟩
    case measure=>simp [intOf];omega
   ·have hb:cP s[k]=false:=by unfold cP;rw [decide_eq_false zo]
    have d0:decide (97<=(s[k].toNat:Int))=false:=zr;have d3:decide (48<=(s[k].toNat:Int))=true:=zr;have d2:decide ((s[k].toNat:Int)<=57)=false:=zr;exact kc6
   ·have hb:cP s[k]=true:=by unfold cP;rw [decide_eq_true zo]
    have d0:decide (97<=(s[k].toNat:Int))=false:=zr;have d3:decide (48<=(s[k].toNat:Int))=true:=zr;have d2:decide ((s[k].toNat:Int)<=57)=true:=zr;have HE:Hid ((s.data.toList.drop (k+1)).all cP=R):=Lib.hid ye;clear hb h;go_wp2;go_round
    case rel=>exact ⟨k+1,zo,zD,HE⟩
    case measure=>simp [intOf];omega
   ·have hb:cP s[k]=true:=by unfold cP;rw [decide_eq_true zo]
    have d0:decide (97<=(s[k].toNat:Int))=false:=zr;have d3:decide (48<=(s[k].toNat:Int))=false:=zr;have e1:((s[k].toNat:Int)==45)=false:=zr;have e2:((s[k].toNat:Int)==46)=true:=zr;have HE:Hid ((s.data.toList.drop (k+1)).all cP=R):=Lib.hid ye;clear hb h;go_wp2;go_round
    case rel=>exact ⟨k+1,zo,zD,HE⟩
    case measure=>simp [intOf];omega
   ·have hb:cP s[k]=true:=by unfold cP;rw [decide_eq_true zo]
    have d0:decide (97<=(s[k].toNat:Int))=false:=zr;have d3:decide (48<=(s[k].toNat:Int))=false:=zr;have e1:((s[k].toNat:Int)==45)=true:=zr;have HE:Hid ((s.data.toList.drop (k+1)).all cP=R):=Lib.hid ye;clear hb h;go_wp2;go_round
    case rel=>exact ⟨k+1,zo,zD,HE⟩
    case measure=>simp [intOf];omega
   have hb:cP s[k]=false:=by unfold cP;rw [decide_eq_false zo]
   have d0:decide (97<=(s[k].toNat:Int))=false:=zr;have d3:decide (48<=(s[k].toNat:Int))=false:=zr;exact kc6
  have hd:decide ((k:Int)<(s.size:Int))=false:=zr;have HE:Hid (R=true):=Lib.hid vB;by_cases h1:1<=s.size
  ·have d1:decide (1<=(s.size:Int))=true:=by simp;omega
   go_wp2;go_ret;exact ⟨by rw [<-HQ.o,HE.o,d1];rfl,rfl⟩
  have d1:decide (1<=(s.size:Int))=false:=zr;go_wp2;go_ret;exact ⟨by rw [<-HQ.o,HE.o,d1];rfl,rfl⟩
theorem El (s:ByteArray) (w:World) (hs:s.size<=1000000):
  Calls prog 131 #[.string s] w fun e w'=>e= .returned (.bool (dy s.data.toList))/\w'=w:=by
 unfold dy;generalize hR:s.data.toList.all gl=R;have HR:=Lib.hid hR;clear hR;go_enter func131,ntmps131;go_wp2;go_loop [3] (fun i=>∃k:Nat,k<=s.size/\i= .int .i64 k/\Hid ((s.data.toList.drop k).all gl=R)) (fun i=>s.size - (intOf i).toNat)
 case atStart=>exact ⟨0,vV _,rfl,Lib.hid xz⟩
 case round=>
  obtain ⟨k,hk,rfl,HD⟩:=hrel;by_cases hlt:k<s.size
  ·have hd:decide ((k:Int)<(s.size:Int))=true:=by simp;omega
   have HA:=Lib.hid ((wg s gl k hlt).symm.trans HD.o);clear HD;by_cases g1:s[k].toNat<32
   ·have l1:decide ((s[k].toNat:Int)<32)=true:=by simp;omega
    exact kb6
   have l1:decide ((s[k].toNat:Int)<32)=false:=zr;by_cases g2:126<s[k].toNat
   ·have l2:decide (126<(s[k].toNat:Int))=true:=by simp;omega
    exact kb6
   have l2:decide (126<(s[k].toNat:Int))=false:=zr
   have HE:Hid ((s.data.toList.drop (k+1)).all gl=R):=Lib.hid (by
    have:=HA.o
    rw [show gl s[k]=true by unfold gl;rw [decide_eq_true zo],Bool.true_and] at this
    exact this)
   go_wp2;go_round
   case rel=>exact ⟨k+1,zo,zD,HE⟩
   case measure=>simp [intOf];omega
  exact kd8
end Go.Proofs.YtehighgebbdenaaGreatDoor
namespace Go.Proofs.YtehighgebbdenaaGreatDoor
open Go.Proofs.Tryz
open Go.RowKit
theorem cq (t b:Int) (w:World) (h1:1<=t) (h2:t<=1073741824) (h3:0<=b) (h4:b<4):
  Calls prog 129 #[.agg #[.int .i64 t,.int .i64 b]] w fun e w'=>e= .returned (.int .i64 0)/\Below w.heap.size w w':=by
 go_enter func129,ntmps129;exact kc0
theorem nh (t b:Int) (w:World) (h:¬(1<=t/\t<=1073741824/\0<=b/\b<4)):
  Calls prog 129 #[.agg #[.int .i64 t,.int .i64 b]] w fun e w'=>e= .returned (.int .i64 2)/\Below w.heap.size w w':=by
 by_cases h1:1<=t
 ·by_cases h2:t<=1073741824
  ·by_cases h3:0<=b
   ·have h4:4<=b:=by omega
    clear h;go_enter func129,ntmps129;exact kc0
   have h4:b<0:=zo;clear h h3;go_enter func129,ntmps129;exact kc0
  have h4:1073741824<t:=zo;clear h h2;go_enter func129,ntmps129;exact kc0
 have h4:t<1:=zo;clear h h1;go_enter func129,ntmps129;exact kc0
theorem fK (t b:Int) (w:World) (h1:1<=t) (h2:t<=1073741824) (h3:0<=b) (h4:b<4):
  Calls prog 60 #[.agg #[.int .i64 t,.int .i64 b]] w fun e w'=>e= .returned (.int .i64 (4*t+b))/\Below w.heap.size w w':=by
 go_enter func60,ntmps60;go_wp2_with fail;refine (cq t b _ h1 h2 h3 h4).mono ?_;rintro e w1 ⟨rfl,hb⟩;obtain ⟨hc,hf⟩:=DB hb;go_wp2;go_ret;exact kk7
end Go.Proofs.YtehighgebbdenaaGreatDoor
namespace Go.Proofs.YtehighgebbdenaaGreatDoor
open Go.Proofs.Tryz
open Go.RowKit
theorem nw (s:ByteArray) (b:Bool) (w:World) (hs:s.size<=1000000) (h:cQ s.data.toList=b):
  Calls prog 130 #[.string s] w fun e w'=>e= .returned (.bool b)/\w'=w:=by rw [<-h];exact Di s w hs
theorem oS (s:ByteArray) (b:Bool) (w:World) (hs:s.size<=1000000) (h:dy s.data.toList=b):
  Calls prog 131 #[.string s] w fun e w'=>e= .returned (.bool b)/\w'=w:=by rw [<-h];exact El s w hs
theorem De (t b n:Int) (k:Nat) (node other:Int) (name value:ByteArray) (w:World) (_hsn:name.size<=1000000) (_hsv:value.size<=1000000) (hst:¬(1<=t/\t<=1073741824/\0<=b/\b<4)):
  Calls prog 55 #[.agg #[.int .i64 t,.int .i64 b,.int .i64 n,.int .u8 (k:Int),.int .i64 node,.int .i64 other,.string name,.string value]] w fun e w'=>e= .returned (.int .i64 ((opE t b n k node other name.data.toList value.data.toList:Nat):Int))/\Below w.heap.size w w':=by
 have O0:=OpAt.new w t b n k node other name value 38;have B0:Below w.heap.size w (w.alloc (.cells #[.int .i64 t,.int .i64 b,.int .i64 n,.int .u8 (k:Int),.int .i64 node,.int .i64 other,.string name,.string value] 38)):=zh _ _;have hln:=bM name;have hlv:=bM value;have HS:=Lib.hid hst;have hcode:opE t b n k node other name.data.toList value.data.toList=2:=xl;rw [hcode];clear hst;clear hcode hln hlv;go_enter func55,ntmps55;go_wp2_with fail
 generalize w.alloc (.cells #[.int .i64 t,.int .i64 b,.int .i64 n,.int .u8 (k:Int),.int .i64 node,.int .i64 other,.string name,.string value] 38)=u at O0 B0 |-
 refine (nh _ _ _ HS.o).mono ?_;rintro e w1 ⟨rfl,hb⟩;have O1:=O0.later hb;have B1:Below w.heap.size w w1:=zj B0 hb;clear hb O0 B0;obtain ⟨x0,x1,x2,x3,x4,x5,x6,x7⟩:=id O1;go_wp2;go_ret;exact ⟨rfl,B1⟩
theorem Lm (t b n:Int) (k:Nat) (node other:Int) (name value:ByteArray) (w:World) (_hsn:name.size<=1000000) (_hsv:value.size<=1000000) (hst:1<=t/\t<=1073741824/\0<=b/\b<4) (hn:n<1\/400<n):
  Calls prog 55 #[.agg #[.int .i64 t,.int .i64 b,.int .i64 n,.int .u8 (k:Int),.int .i64 node,.int .i64 other,.string name,.string value]] w fun e w'=>e= .returned (.int .i64 ((opE t b n k node other name.data.toList value.data.toList:Nat):Int))/\Below w.heap.size w w':=by
 have O0:=OpAt.new w t b n k node other name value 38;have B0:Below w.heap.size w (w.alloc (.cells #[.int .i64 t,.int .i64 b,.int .i64 n,.int .u8 (k:Int),.int .i64 node,.int .i64 other,.string name,.string value] 38)):=zh _ _;have hln:=bM name;have hlv:=bM value;obtain ⟨s1,s2,s3,s4⟩:=hst
 rcases hn with h | h
 ·have d1:decide (n<1)=true:=by simp;omega
  exact kc2
 have d1:decide (n<1)=false:=zr;have d2:decide (400<n)=true:=zr;exact kc2
theorem Lx (t b n:Int) (k:Nat) (node other:Int) (name value:ByteArray) (w:World) (hsn:name.size<=1000000) (_hsv:value.size<=1000000) (hst:1<=t/\t<=1073741824/\0<=b/\b<4) (hn:1<=n/\n<=400) (hk:k=109):
  Calls prog 55 #[.agg #[.int .i64 t,.int .i64 b,.int .i64 n,.int .u8 (k:Int),.int .i64 node,.int .i64 other,.string name,.string value]] w fun e w'=>e= .returned (.int .i64 ((opE t b n k node other name.data.toList value.data.toList:Nat):Int))/\Below w.heap.size w w':=by
 have O0:=OpAt.new w t b n k node other name value 38;have B0:Below w.heap.size w (w.alloc (.cells #[.int .i64 t,.int .i64 b,.int .i64 n,.int .u8 (k:Int),.int .i64 node,.int .i64 other,.string name,.string value] 38)):=zh _ _;have hln:=bM name;have hlv:=bM value;obtain ⟨s1,s2,s3,s4⟩:=hst;have d1:decide (n<1)=false:=zr;have d2:decide (400<n)=false:=zr
 have hop:opE t b n k node other name.data.toList value.data.toList=bF (t*4+b) node other name.data.toList value.data.toList:=by
  unfold opE fi;rw [if_pos zo];rw [if_pos hk]
 rw [hop];clear hop;have r109:((k:Int)==109)=true:=zr;clear hk;by_cases hsh:node<2\/t*4+b<node\/other<0\/t*4+b<=other
 ·have hc:(node<2)\/(¬(node<2)/\t*4+b<node)\/(¬(node<2)/\¬(t*4+b<node)/\other<0)\/(¬(node<2)/\¬(t*4+b<node)/\¬(other<0)/\t*4+b<=other):=by omega
  rcases hc with h | h | h | h
  ·have hx:=h;have hcode:bF (t*4+b) node other name.data.toList value.data.toList=3:=qx;rw [hcode];have q0:decide (node<2)=true:=zr;clear hsh h hx;exact ka0
  ·have hx:=h;have hcode:bF (t*4+b) node other name.data.toList value.data.toList=3:=qx;rw [hcode];have q0:decide (node<2)=false:=zr;have q1:decide ((4*t+b)<node)=true:=zr;clear hsh h hx;exact ka0
  ·have hx:=h;have hcode:bF (t*4+b) node other name.data.toList value.data.toList=3:=qx;rw [hcode];have q0:decide (node<2)=false:=zr;have q1:decide ((4*t+b)<node)=false:=zr;have q2:decide (other<0)=true:=zr;clear hsh h hx;exact ka0
  have hx:=h;have hcode:bF (t*4+b) node other name.data.toList value.data.toList=3:=qx;rw [hcode];have q0:decide (node<2)=false:=zr;have q1:decide ((4*t+b)<node)=false:=zr;have q2:decide (other<0)=false:=zr;have q3:decide ((4*t+b)<=other)=true:=zr;clear hsh h hx;exact ka1
 have q0:decide (node<2)=false:=zr;have q1:decide ((4*t+b)<node)=false:=zr;have q2:decide (other<0)=false:=zr;have q3:decide ((4*t+b)<=other)=false:=zr
 cases hn2:cQ name.data.toList with
 | false=>
  have hcode:bF (t*4+b) node other name.data.toList value.data.toList=4:=by unfold bF;rw [if_neg hsh,if_pos hn2]
  rw [hcode];clear hsh;exact ka1
 | true=>
  by_cases hv:value.data.toList= []
  ·have e1:=cw hv
   have hcode:bF (t*4+b) node other name.data.toList value.data.toList=0:=by unfold bF;rw [if_neg hsh,if_neg yI,if_neg qR]
   rw [hcode];clear hsh hv;exact ka1
  have e1:=dF hv
  have hcode:bF (t*4+b) node other name.data.toList value.data.toList=3:=by unfold bF;rw [if_neg hsh,if_neg yI,if_pos hv]
  rw [hcode];clear hsh hv;exact ka2
theorem Lv (t b n:Int) (k:Nat) (node other:Int) (name value:ByteArray) (w:World) (_hsn:name.size<=1000000) (hsv:value.size<=1000000) (hst:1<=t/\t<=1073741824/\0<=b/\b<4) (hn:1<=n/\n<=400) (hk:k=105):
  Calls prog 55 #[.agg #[.int .i64 t,.int .i64 b,.int .i64 n,.int .u8 (k:Int),.int .i64 node,.int .i64 other,.string name,.string value]] w fun e w'=>e= .returned (.int .i64 ((opE t b n k node other name.data.toList value.data.toList:Nat):Int))/\Below w.heap.size w w':=by
 have O0:=OpAt.new w t b n k node other name value 38;have B0:Below w.heap.size w (w.alloc (.cells #[.int .i64 t,.int .i64 b,.int .i64 n,.int .u8 (k:Int),.int .i64 node,.int .i64 other,.string name,.string value] 38)):=zh _ _;have hln:=bM name;have hlv:=bM value;obtain ⟨s1,s2,s3,s4⟩:=hst;have d1:decide (n<1)=false:=zr;have d2:decide (400<n)=false:=zr
 have hop:opE t b n k node other name.data.toList value.data.toList=gV (t*4+b) node other name.data.toList value.data.toList:=by
  unfold opE fi;rw [if_pos zo];rw [if_neg (show ¬k=109 by omega)];rw [if_pos hk]
 rw [hop];clear hop;have r109:((k:Int)==109)=false:=zr;have r105:((k:Int)==105)=true:=zr;have r100:((k:Int)==100)=false:=zr;clear hk;by_cases hsh:node<0\/t*4+b<=node\/other<0\/t*4+b<=other
 ·have hc:(node<0)\/(¬(node<0)/\t*4+b<=node)\/(¬(node<0)/\¬(t*4+b<=node)/\other<0)\/(¬(node<0)/\¬(t*4+b<=node)/\¬(other<0)/\t*4+b<=other):=by omega
  rcases hc with h | h | h | h
  ·have hx:=h;have hcode:gV (t*4+b) node other name.data.toList value.data.toList=3:=qC;rw [hcode];have q0:decide (node<0)=true:=zr;clear hsh h hx;exact ka0
  ·have hx:=h;have hcode:gV (t*4+b) node other name.data.toList value.data.toList=3:=qC;rw [hcode];have q0:decide (node<0)=false:=zr;have q1:decide ((4*t+b)<=node)=true:=zr;clear hsh h hx;exact ka0
  ·have hx:=h;have hcode:gV (t*4+b) node other name.data.toList value.data.toList=3:=qC;rw [hcode];have q0:decide (node<0)=false:=zr;have q1:decide ((4*t+b)<=node)=false:=zr;have q2:decide (other<0)=true:=zr;clear hsh h hx;exact ka0
  have hx:=h;have hcode:gV (t*4+b) node other name.data.toList value.data.toList=3:=qC;rw [hcode];have q0:decide (node<0)=false:=zr;have q1:decide ((4*t+b)<=node)=false:=zr;have q2:decide (other<0)=false:=zr;have q3:decide ((4*t+b)<=other)=true:=zr;clear hsh h hx;exact ka1
 have q0:decide (node<0)=false:=zr;have q1:decide ((4*t+b)<=node)=false:=zr;have q2:decide (other<0)=false:=zr;have q3:decide ((4*t+b)<=other)=false:=zr;by_cases hn2:name.data.toList= []
 ·have e1:=cw hn2;by_cases hv:value.size=1
  ·have e2:((value.size:Int) !=1)=false:=by simp;omega
   cases hp:dy value.data.toList with
   | false=>
    have hcode:gV (t*4+b) node other name.data.toList value.data.toList=3:=by unfold gV;rw [if_neg hsh,if_neg yI,if_pos (.inr hp)]
    rw [hcode];clear hsh hn2 hv;exact ka1
   | true=>
    have hcode:gV (t*4+b) node other name.data.toList value.data.toList=0:=by unfold gV;rw [if_neg hsh,if_neg yI,if_neg qN]
    rw [hcode];clear hsh hn2 hv;exact ka1
  have e2:((value.size:Int) !=1)=true:=zr
  obtain ⟨sb,hp⟩:∃sb,dy value.data.toList=sb:=⟨_,rfl⟩
  have hcode:gV (t*4+b) node other name.data.toList value.data.toList=3:=by unfold gV;rw [if_neg hsh,if_neg yI,if_pos (.inl zo)]
  rw [hcode];clear hsh hn2 hv;exact ka2
 have e1:=dF hn2
 have hcode:gV (t*4+b) node other name.data.toList value.data.toList=4:=by unfold gV;rw [if_neg hsh,if_pos hn2]
 rw [hcode];clear hsh hn2;exact ka2
theorem LF (t b n:Int) (k:Nat) (node other:Int) (name value:ByteArray) (w:World) (_hsn:name.size<=1000000) (hsv:value.size<=1000000) (hst:1<=t/\t<=1073741824/\0<=b/\b<4) (hn:1<=n/\n<=400) (hk:k=100):
  Calls prog 55 #[.agg #[.int .i64 t,.int .i64 b,.int .i64 n,.int .u8 (k:Int),.int .i64 node,.int .i64 other,.string name,.string value]] w fun e w'=>e= .returned (.int .i64 ((opE t b n k node other name.data.toList value.data.toList:Nat):Int))/\Below w.heap.size w w':=by
 have O0:=OpAt.new w t b n k node other name value 38;have B0:Below w.heap.size w (w.alloc (.cells #[.int .i64 t,.int .i64 b,.int .i64 n,.int .u8 (k:Int),.int .i64 node,.int .i64 other,.string name,.string value] 38)):=zh _ _;have hln:=bM name;have hlv:=bM value;obtain ⟨s1,s2,s3,s4⟩:=hst;have d1:decide (n<1)=false:=zr;have d2:decide (400<n)=false:=zr
 have hop:opE t b n k node other name.data.toList value.data.toList=gu (t*4+b) node other name.data.toList value.data.toList:=by
  unfold opE fi;rw [if_pos zo];rw [if_neg (show ¬k=109 by omega)];rw [if_neg (show ¬k=105 by omega)];rw [if_pos hk]
 rw [hop];clear hop;have r109:((k:Int)==109)=false:=zr;have r105:((k:Int)==105)=false:=zr;have r100:((k:Int)==100)=true:=zr;clear hk;by_cases hsh:node<0\/t*4+b<=node\/other<0\/t*4+b<=other\/other=0
 ·have hc:(node<0)\/(¬(node<0)/\t*4+b<=node)\/(¬(node<0)/\¬(t*4+b<=node)/\other<0)\/(¬(node<0)/\¬(t*4+b<=node)/\¬(other<0)/\t*4+b<=other)\/(¬(node<0)/\¬(t*4+b<=node)/\¬(other<0)/\¬(t*4+b<=other)/\other=0):=by omega
  rcases hc with h | h | h | h | h
  ·have hx:=h;have hcode:gu (t*4+b) node other name.data.toList value.data.toList=3:=qb;rw [hcode];have q0:decide (node<0)=true:=zr;clear hsh h hx;exact ka0
  ·have hx:=h;have hcode:gu (t*4+b) node other name.data.toList value.data.toList=3:=qb;rw [hcode];have q0:decide (node<0)=false:=zr;have q1:decide ((4*t+b)<=node)=true:=zr;clear hsh h hx;exact ka0
  ·have hx:=h;have hcode:gu (t*4+b) node other name.data.toList value.data.toList=3:=qb;rw [hcode];have q0:decide (node<0)=false:=zr;have q1:decide ((4*t+b)<=node)=false:=zr;have q2:decide (other<0)=true:=zr;clear hsh h hx;exact ka0
  ·have hx:=h;have hcode:gu (t*4+b) node other name.data.toList value.data.toList=3:=qb;rw [hcode];have q0:decide (node<0)=false:=zr;have q1:decide ((4*t+b)<=node)=false:=zr;have q2:decide (other<0)=false:=zr;have q3:decide ((4*t+b)<=other)=true:=zr;clear hsh h hx;exact ka0
  have hx:=h;have hcode:gu (t*4+b) node other name.data.toList value.data.toList=3:=qb;rw [hcode];have q0:decide (node<0)=false:=zr;have q1:decide ((4*t+b)<=node)=false:=zr;have q2:decide (other<0)=false:=zr;have q3:decide ((4*t+b)<=other)=false:=zr;have q4:(other==0)=true:=zr;clear hsh h hx;exact ka1
 have q0:decide (node<0)=false:=zr;have q1:decide ((4*t+b)<=node)=false:=zr;have q2:decide (other<0)=false:=zr;have q3:decide ((4*t+b)<=other)=false:=zr;have q4:(other==0)=false:=zr;by_cases hn2:name.data.toList= []
 ·have e1:=cw hn2;by_cases hv:value.data.toList= []
  ·have e2:=cw hv
   have hp:dy value.data.toList=true:=by rw [hv];rfl
   have hcode:gu (t*4+b) node other name.data.toList value.data.toList=0:=by unfold gu;rw [if_neg hsh,if_neg yI,if_neg qR]
   rw [hcode];clear hsh hn2 hv;exact ka1
  have e2:=dF hv
  have hcode:gu (t*4+b) node other name.data.toList value.data.toList=3:=by unfold gu;rw [if_neg hsh,if_neg yI,if_pos hv]
  rw [hcode];clear hsh hn2 hv;exact ka2
 have e1:=dF hn2
 have hcode:gu (t*4+b) node other name.data.toList value.data.toList=4:=by unfold gu;rw [if_neg hsh,if_pos hn2]
 rw [hcode];clear hsh hn2;exact ka2
theorem LG (t b n:Int) (k:Nat) (node other:Int) (name value:ByteArray) (w:World) (hsn:name.size<=1000000) (hsv:value.size<=1000000) (hst:1<=t/\t<=1073741824/\0<=b/\b<4) (hn:1<=n/\n<=400) (hk:k=115):
  Calls prog 55 #[.agg #[.int .i64 t,.int .i64 b,.int .i64 n,.int .u8 (k:Int),.int .i64 node,.int .i64 other,.string name,.string value]] w fun e w'=>e= .returned (.int .i64 ((opE t b n k node other name.data.toList value.data.toList:Nat):Int))/\Below w.heap.size w w':=by
 have O0:=OpAt.new w t b n k node other name value 38;have B0:Below w.heap.size w (w.alloc (.cells #[.int .i64 t,.int .i64 b,.int .i64 n,.int .u8 (k:Int),.int .i64 node,.int .i64 other,.string name,.string value] 38)):=zh _ _;have hln:=bM name;have hlv:=bM value;obtain ⟨s1,s2,s3,s4⟩:=hst;have d1:decide (n<1)=false:=zr;have d2:decide (400<n)=false:=zr
 have hop:opE t b n k node other name.data.toList value.data.toList=gy (t*4+b) node other name.data.toList value.data.toList:=by
  unfold opE fi;rw [if_pos zo];rw [if_neg (show ¬k=109 by omega)];rw [if_neg (show ¬k=105 by omega)];rw [if_neg (show ¬k=100 by omega)];rw [if_pos hk]
 rw [hop];clear hop;have r109:((k:Int)==109)=false:=zr;have r105:((k:Int)==105)=false:=zr;have r100:((k:Int)==100)=false:=zr;have r115:((k:Int)==115)=true:=zr;clear hk;by_cases hsh:node<0\/t*4+b<=node\/other≠0
 ·have hc:(node<0)\/(¬(node<0)/\t*4+b<=node)\/(¬(node<0)/\¬(t*4+b<=node)/\other≠0):=by omega
  rcases hc with h | h | h
  ·have hx:=h;have hcode:gy (t*4+b) node other name.data.toList value.data.toList=3:=xZ;rw [hcode];have q0:decide (node<0)=true:=zr;clear hsh h hx;exact ka0
  ·have hx:=h;have hcode:gy (t*4+b) node other name.data.toList value.data.toList=3:=xZ;rw [hcode];have q0:decide (node<0)=false:=zr;have q1:decide ((4*t+b)<=node)=true:=zr;clear hsh h hx;exact ka0
  have hx:=h;have hcode:gy (t*4+b) node other name.data.toList value.data.toList=3:=xZ;rw [hcode];have q0:decide (node<0)=false:=zr;have q1:decide ((4*t+b)<=node)=false:=zr;have q2:(other !=0)=true:=zr;clear hsh h hx;exact ka1
 have q0:decide (node<0)=false:=zr;have q1:decide ((4*t+b)<=node)=false:=zr;have q2:(other !=0)=false:=zr
 cases hn2:cQ name.data.toList with
 | false=>
  have hcode:gy (t*4+b) node other name.data.toList value.data.toList=4:=by unfold gy;rw [if_neg hsh,if_pos hn2]
  rw [hcode];clear hsh;exact ka1
 | true=>
  by_cases hv:12<value.size
  ·have e2:decide (12<(value.size:Int))=true:=by simp;omega
   obtain ⟨sb,hp⟩:∃sb,dy value.data.toList=sb:=⟨_,rfl⟩
   have hcode:gy (t*4+b) node other name.data.toList value.data.toList=3:=by unfold gy;rw [if_neg hsh,if_neg yI,if_pos (.inl zo)]
   rw [hcode];clear hsh;exact ka1
  have e2:decide (12<(value.size:Int))=false:=zr
  cases hp:dy value.data.toList with
  | false=>
   have hcode:gy (t*4+b) node other name.data.toList value.data.toList=3:=by unfold gy;rw [if_neg hsh,if_neg yI,if_pos (.inr hp)]
   rw [hcode];clear hsh;exact ka2
  | true=>
   have hcode:gy (t*4+b) node other name.data.toList value.data.toList=0:=by unfold gy;rw [if_neg hsh,if_neg yI,if_neg qN]
   rw [hcode];clear hsh;exact ka2
theorem Lo (t b n:Int) (k:Nat) (node other:Int) (name value:ByteArray) (w:World) (_hsn:name.size<=1000000) (_hsv:value.size<=1000000) (hst:1<=t/\t<=1073741824/\0<=b/\b<4) (hn:1<=n/\n<=400) (hk:k≠109/\k≠105/\k≠100/\k≠115):
  Calls prog 55 #[.agg #[.int .i64 t,.int .i64 b,.int .i64 n,.int .u8 (k:Int),.int .i64 node,.int .i64 other,.string name,.string value]] w fun e w'=>e= .returned (.int .i64 ((opE t b n k node other name.data.toList value.data.toList:Nat):Int))/\Below w.heap.size w w':=by
 have O0:=OpAt.new w t b n k node other name value 38;have B0:Below w.heap.size w (w.alloc (.cells #[.int .i64 t,.int .i64 b,.int .i64 n,.int .u8 (k:Int),.int .i64 node,.int .i64 other,.string name,.string value] 38)):=zh _ _;have hln:=bM name;have hlv:=bM value;obtain ⟨s1,s2,s3,s4⟩:=hst;have d1:decide (n<1)=false:=zr;have d2:decide (400<n)=false:=zr;have r109:((k:Int)==109)=false:=zr;have r105:((k:Int)==105)=false:=zr;have r100:((k:Int)==100)=false:=zr;have r115:((k:Int)==115)=false:=zr
 have hcode:opE t b n k node other name.data.toList value.data.toList=5:=by unfold opE fi;rw [if_pos zo,if_neg hk.1,if_neg hk.2.1,if_neg hk.2.2.1,if_neg hk.2.2.2]
 rw [hcode];clear hk;exact ka0
theorem mS (t b n:Int) (k:Nat) (node other:Int) (name value:ByteArray) (w:World) (hsn:name.size<=1000000) (hsv:value.size<=1000000):
  Calls prog 55 #[.agg #[.int .i64 t,.int .i64 b,.int .i64 n,.int .u8 (k:Int),.int .i64 node,.int .i64 other,.string name,.string value]] w fun e w'=>e= .returned (.int .i64 ((opE t b n k node other name.data.toList value.data.toList:Nat):Int))/\Below w.heap.size w w':=by
 by_cases hst:1<=t/\t<=1073741824/\0<=b/\b<4
 ·by_cases hn:1<=n/\n<=400
  ·by_cases h1:k=109
   ·exact Lx t b n k node other name value w hsn hsv hst hn h1
   by_cases h2:k=105
   ·exact Lv t b n k node other name value w hsn hsv hst hn h2
   by_cases h3:k=100
   ·exact LF t b n k node other name value w hsn hsv hst hn h3
   by_cases h4:k=115
   ·exact LG t b n k node other name value w hsn hsv hst hn h4
   exact Lo t b n k node other name value w hsn hsv hst hn ⟨h1,h2,h3,h4⟩
  exact Lm t b n k node other name value w hsn hsv hst zo
 exact De t b n k node other name value w hsn hsv hst
