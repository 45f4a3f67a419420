import Derived.Test.YtebpcnkdhgnghaaGreatDoorPM01
import Derived.Test.YtebpcnkdhgnghaaGreatDoorPM02
import Derived.Test.YtebpcnkdhgnghaaGreatDoorPM03
import Derived.Test.YtebpcnkdhgnghaaGreatDoorPM04
import Derived.WalkSmall
import Derived.Deep.RegionHeld3
set_option linter.unusedSimpArgs false
set_option linter.unusedVariables false
set_option maxHeartbeats 64000000
namespace Go.Proofs.YtebpcnkdhgnghaaGreatDoor
open Go.Proofs.Tryz
variable {k:Int} {s:Int×Int} {ms:List Mov} {xs:List OpX} {m:Mov} {B b i n:Nat} {ad:Nat→Addr} {f:Sta} {v:Value} {w w':World}
section
open Go.RowKit
theorem ww (s:ByteArray) (b:Bool) (w:World) (hs:s.size<=1000000) (h:bC s.data.toList=b):
  Calls prog 251 #[.string s] w fun e w'=>e= .returned (.bool b)/\w'=w:=by rw [<-h];exact IR s w hs
theorem wO (s:ByteArray) (b:Bool) (w:World) (hs:s.size<=1000000) (h:dD s.data.toList=b):
  Calls prog 252 #[.string s] w fun e w'=>e= .returned (.bool b)/\w'=w:=by rw [<-h];exact JQ s w hs
theorem ct {s:ByteArray} (h:s.data.toList= []):s.toList.isEmpty=true:=by rw [uy,h];rfl
theorem dJ {s:ByteArray} (h:s.data.toList≠ []):s.toList.isEmpty=false:=by
 rw [uy]
 cases hd:s.data.toList with
 | nil=>exact absurd hd h
 | cons a r=>rfl
theorem bR (s:ByteArray):s.data.toList.length=s.size:=zt
def eV (ad:Nat->Addr) (c:Nat):Value:=if c=0 then .nilIface else .iface 450 (.pointer (some (ad (c - 1))))
structure Op4 (ad:Nat->Addr) (w:World):Prop where
 c1:w.cell? ⟨0,0,none⟩=some (.iface 450 (.pointer (some (ad 1))))
 c2:w.cell? ⟨4,0,none⟩=some (.iface 450 (.pointer (some (ad 2))))
 c3:w.cell? ⟨5,0,none⟩=some (.iface 450 (.pointer (some (ad 3))))
 c4:w.cell? ⟨6,0,none⟩=some (.iface 450 (.pointer (some (ad 4))))
theorem aB {o:Nat} (hb:Below w.heap.size w w') (h:w.cell? ⟨b,o,none⟩=some v):w'.cell? ⟨b,o,none⟩=some v:=by
 exact kg2
theorem Op4.later (h:Op4 ad w) (hb:Below w.heap.size w w'):Op4 ad w':=
 ⟨aB hb h.c1,aB hb h.c2,aB hb h.c3,aB hb h.c4⟩
structure OpAt (w:World) (a:Nat) (t b n:Int) (k:Nat) (node other:Int) (name value:ByteArray):Prop where
 c0:w.cell? ⟨a,0,none⟩=some (.int .i64 t)
 c1:w.cell? ⟨a,1,none⟩=some (.int .i64 b)
 c2:w.cell? ⟨a,2,none⟩=some (.int .i64 n)
 c3:w.cell? ⟨a,3,none⟩=some (.int .u8 (k:Int))
 c4:w.cell? ⟨a,4,none⟩=some (.int .i64 node)
 c5:w.cell? ⟨a,5,none⟩=some (.int .i64 other)
 c6:w.cell? ⟨a,6,none⟩=some (.string name)
 c7:w.cell? ⟨a,7,none⟩=some (.string value)
theorem OpAt.later {a:Nat} {t b n:Int} {k:Nat} {node other:Int} {name value:ByteArray} (h:OpAt w a t b n k node other name value) (hb:Below w.heap.size w w'):OpAt w' a t b n k node other name value:=
 ⟨aB hb h.c0,aB hb h.c1,aB hb h.c2,aB hb h.c3,aB hb h.c4,aB hb h.c5,aB hb h.c6,aB hb h.c7⟩
theorem OpAt.new (w:World) (t b n:Int) (k:Nat) (node other:Int) (name value:ByteArray) (T:TypeId):OpAt (w.alloc (.cells #[.int .i64 t,.int .i64 b,.int .i64 n,.int .u8 (k:Int),.int .i64 node,.int .i64 other,.string name,.string value] T)) w.heap.size t b n k node other name value:=by
 constructor<;>simp [go_sem]
theorem Ip (id:Int) (t b n:Int) (k:Nat) (node other:Int) (name value:ByteArray) (w:World) (hE:Op4 ad w) (hid:4<=id) (hsn:name.size<=1000000) (_hsv:value.size<=1000000):
  Calls prog 186 #[.agg #[.int .i64 t,.int .i64 b,.int .i64 n,.int .u8 (k:Int),.int .i64 node,.int .i64 other,.string name,.string value],.int .i64 id] w fun e w'=>e= .returned (eV ad (bK id node other name.data.toList value.data.toList))/\Below w.heap.size w w':=by
 have g2:=fun o=>(hE.later ((vG _ _).alloc zg o)).c2
 have g3:=fun o=>(hE.later ((vG _ _).alloc zg o)).c3
 have hz2:4<w.heap.size:=vK w ⟨4,0,none⟩ hE.c2;have hz3:5<w.heap.size:=vK w ⟨5,0,none⟩ hE.c3;have hln:=bR name;have hlv:=bR value;clear hE;by_cases hsh:node<2\/id<node\/other<0\/id<=other
 ·rcases (by omega:node=0\/node=1\/node<0\/id<node\/(2<=node/\node<id)\/node=id) with h | h | h | h | ⟨h,h'⟩ | h
  ·have hcode:bK id node other name.data.toList value.data.toList=3:=by unfold bK;rw [if_pos zj]
   rw [hcode];have q0:(node==0)=true:=zq;clear hsh;clear hcode hln hlv;go_enter func186,ntmps186;exact ka5
  ·have hcode:bK id node other name.data.toList value.data.toList=3:=by unfold bK;rw [if_pos zj]
   rw [hcode];have q0:(node==0)=false:=zq;have q1:(node==1)=true:=zq;clear hsh;clear hcode hln hlv;go_enter func186,ntmps186;exact ka5
  ·have hcode:bK id node other name.data.toList value.data.toList=3:=by unfold bK;rw [if_pos zj]
   rw [hcode];have q0:(node==0)=false:=zq;have q1:(node==1)=false:=zq;have q2:(node !=id)=true:=zq;clear hsh;clear hcode hln hlv;go_enter func186,ntmps186;exact ka5
  ·have hcode:bK id node other name.data.toList value.data.toList=3:=by unfold bK;rw [if_pos zj]
   rw [hcode];have q0:(node==0)=false:=zq;have q1:(node==1)=false:=zq;have q2:(node !=id)=true:=zq;clear hsh;clear hcode hln hlv;go_enter func186,ntmps186;exact ka5
  ·have hcode:bK id node other name.data.toList value.data.toList=3:=by unfold bK;rw [if_pos zj]
   rw [hcode];have q0:(node==0)=false:=zq;have q1:(node==1)=false:=zq;have h3:other<0\/id<=other:=zj;clear hsh;clear hcode hln hlv;go_enter func186,ntmps186;exact ka5
  have hcode:bK id node other name.data.toList value.data.toList=3:=by unfold bK;rw [if_pos zj]
  rw [hcode];have q0:(node==0)=false:=zq;have q1:(node==1)=false:=zq;have q2:(node !=id)=false:=zq;have h3:other<0\/id<=other:=zj;clear hsh;clear hcode hln hlv;go_enter func186,ntmps186;exact ka3
 have o1:0<=other:=zj;have o2:other<id:=zj
 rcases (by omega:(2<=node/\node<id)\/node=id) with ⟨h,h'⟩ | h
 ·cases hn:bC name.data.toList with
  | false=>
   have hcode:bK id node other name.data.toList value.data.toList=4:=by unfold bK;rw [if_neg hsh,if_pos hn]
   rw [hcode];have q0:(node==0)=false:=zq;have q1:(node==1)=false:=zq;clear hsh;clear hcode hln hlv;go_enter func186,ntmps186;exact ka3
  | true=>
   by_cases hv:value.data.toList= []
   ·have hcode:bK id node other name.data.toList value.data.toList=0:=by unfold bK;rw [if_neg hsh,if_neg yB,if_neg qN]
    rw [hcode];have q0:(node==0)=false:=zq;have q1:(node==1)=false:=zq;have e1:=ct hv;clear hsh hv;clear hcode hln hlv;go_enter func186,ntmps186;exact ka3
   have hcode:bK id node other name.data.toList value.data.toList=3:=xB;rw [hcode];have q0:(node==0)=false:=zq;have q1:(node==1)=false:=zq;have e1:=dJ hv;clear hsh hv;clear hcode hln hlv;go_enter func186,ntmps186;exact ka4
 cases hn:bC name.data.toList with
 | false=>
  have hcode:bK id node other name.data.toList value.data.toList=4:=by unfold bK;rw [if_neg hsh,if_pos hn]
  rw [hcode];have q0:(node==0)=false:=zq;have q1:(node==1)=false:=zq;have q2:(node !=id)=false:=zq;clear hsh;clear hcode hln hlv;go_enter func186,ntmps186;exact ka4
 | true=>
  by_cases hv:value.data.toList= []
  ·have hcode:bK id node other name.data.toList value.data.toList=0:=by unfold bK;rw [if_neg hsh,if_neg yB,if_neg qN]
   rw [hcode];have q0:(node==0)=false:=zq;have q1:(node==1)=false:=zq;have q2:(node !=id)=false:=zq;have e1:=ct hv;clear hsh hv;clear hcode hln hlv;go_enter func186,ntmps186;exact ka4
  have hcode:bK id node other name.data.toList value.data.toList=3:=xB;rw [hcode];have q0:(node==0)=false:=zq;have q1:(node==1)=false:=zq;have q2:(node !=id)=false:=zq;have e1:=dJ hv;clear hsh hv;clear hcode hln hlv;go_enter func186,ntmps186;exact ka4
theorem Cv (id:Int) (t b n:Int) (k:Nat) (node other:Int) (name value:ByteArray) (w:World) (hE:Op4 ad w) (_hid:4<=id) (_hsn:name.size<=1000000) (hsv:value.size<=1000000):
  Calls prog 187 #[.agg #[.int .i64 t,.int .i64 b,.int .i64 n,.int .u8 (k:Int),.int .i64 node,.int .i64 other,.string name,.string value],.int .i64 id] w fun e w'=>e= .returned (eV ad (fE id node other name.data.toList value.data.toList))/\Below w.heap.size w w':=by
 have g2:=fun o=>(hE.later ((vG _ _).alloc zg o)).c2
 have g3:=fun o=>(hE.later ((vG _ _).alloc zg o)).c3
 have hz2:4<w.heap.size:=vK w ⟨4,0,none⟩ hE.c2;have hz3:5<w.heap.size:=vK w ⟨5,0,none⟩ hE.c3;have hln:=bR name;have hlv:=bR value;clear hE;by_cases hsh:node<0\/id<=node\/other<0\/id<=other
 ·rcases (by omega:(node<0\/id<=node)\/((0<=node/\node<id)/\(other<0\/id<=other))) with h | ⟨⟨h,h'⟩,h3⟩
  ·have hcode:fE id node other name.data.toList value.data.toList=3:=by unfold fE;rw [if_pos zj]
   rw [hcode];clear hsh;clear hcode hln hlv;go_enter func187,ntmps187;exact ka5
  have hcode:fE id node other name.data.toList value.data.toList=3:=by unfold fE;rw [if_pos zj]
  rw [hcode];clear hsh;clear hcode hln hlv;go_enter func187,ntmps187;exact ka3
 obtain ⟨h1,h2,h3,h4⟩:0<=node/\node<id/\0<=other/\other<id:=zj;by_cases hn:name.data.toList= []
 ·have e1:=ct hn;by_cases hv:value.size=1
  ·have e2:((value.size:Int) !=1)=false:=by simp;omega
   cases hp:dD value.data.toList with
   | false=>
    have hcode:fE id node other name.data.toList value.data.toList=3:=by unfold fE;rw [if_neg hsh,if_neg yB,if_pos (.inr hp)]
    rw [hcode];clear hsh hn hv;clear hcode hln hlv;go_enter func187,ntmps187;exact ka3
   | true=>
    have hcode:fE id node other name.data.toList value.data.toList=0:=by unfold fE;rw [if_neg hsh,if_neg yB,if_neg qL]
    rw [hcode];clear hsh hn hv;clear hcode hln hlv;go_enter func187,ntmps187;exact ka3
  have e2:((value.size:Int) !=1)=true:=zq
  have hcode:fE id node other name.data.toList value.data.toList=3:=by unfold fE;rw [if_neg hsh,if_neg yB,if_pos (.inl zj)]
  rw [hcode];clear hsh hn hv;clear hcode hln hlv;go_enter func187,ntmps187;exact ka4
 have e1:=dJ hn
 have hcode:fE id node other name.data.toList value.data.toList=4:=by unfold fE;rw [if_neg hsh,if_pos hn]
 rw [hcode];clear hsh hn;clear hcode hln hlv;go_enter func187,ntmps187;exact ka4
theorem BG (id:Int) (t b n:Int) (k:Nat) (node other:Int) (name value:ByteArray) (w:World) (hE:Op4 ad w) (hid:4<=id) (_hsn:name.size<=1000000) (_hsv:value.size<=1000000):
  Calls prog 188 #[.agg #[.int .i64 t,.int .i64 b,.int .i64 n,.int .u8 (k:Int),.int .i64 node,.int .i64 other,.string name,.string value],.int .i64 id] w fun e w'=>e= .returned (eV ad (gG id node other name.data.toList value.data.toList))/\Below w.heap.size w w':=by
 have g2:=fun o=>(hE.later ((vG _ _).alloc zg o)).c2
 have g3:=fun o=>(hE.later ((vG _ _).alloc zg o)).c3
 have hz2:4<w.heap.size:=vK w ⟨4,0,none⟩ hE.c2;have hz3:5<w.heap.size:=vK w ⟨5,0,none⟩ hE.c3;have hln:=bR name;have hlv:=bR value;clear hE;by_cases hsh:node<0\/id<=node\/other<0\/id<=other\/other=0
 ·rcases (by omega:(node<0\/id<=node)\/((0<=node/\node<id)/\(other<0\/id<=other))\/(0<=node/\node<id/\other=0)) with h | ⟨⟨h,h'⟩,h3⟩ | ⟨h,h',h3⟩
  ·have hcode:gG id node other name.data.toList value.data.toList=3:=by unfold gG;rw [if_pos zj]
   rw [hcode];clear hsh;clear hcode hln hlv;go_enter func188,ntmps188;exact ka5
  ·have hcode:gG id node other name.data.toList value.data.toList=3:=by unfold gG;rw [if_pos zj]
   rw [hcode];clear hsh;clear hcode hln hlv;go_enter func188,ntmps188;exact ka5
  have hcode:gG id node other name.data.toList value.data.toList=3:=by unfold gG;rw [if_pos zj]
  rw [hcode];have q0:(other==0)=true:=zq;clear hsh;clear hcode hln hlv;go_enter func188,ntmps188;exact ka3
 obtain ⟨h1,h2,h3,h4,h5⟩:0<=node/\node<id/\0<=other/\other<id/\other≠0:=zj;have q0:(other==0)=false:=zq;by_cases hn:name.data.toList= []
 ·have e1:=ct hn;by_cases hv:value.data.toList= []
  ·have e2:=ct hv
   have hcode:gG id node other name.data.toList value.data.toList=0:=by unfold gG;rw [if_neg hsh,if_neg yB,if_neg qN]
   rw [hcode];clear hsh hn hv;clear hcode hln hlv;go_enter func188,ntmps188;exact ka3
  have e2:=dJ hv
  have hcode:gG id node other name.data.toList value.data.toList=3:=by unfold gG;rw [if_neg hsh,if_neg yB,if_pos hv]
  rw [hcode];clear hsh hn hv;clear hcode hln hlv;go_enter func188,ntmps188;exact ka4
 have e1:=dJ hn
 have hcode:gG id node other name.data.toList value.data.toList=4:=by unfold gG;rw [if_neg hsh,if_pos hn]
 rw [hcode];clear hsh hn;clear hcode hln hlv;go_enter func188,ntmps188;exact ka4
theorem KK (id:Int) (t b n:Int) (k:Nat) (node other:Int) (name value:ByteArray) (w:World) (hE:Op4 ad w) (_hid:4<=id) (hsn:name.size<=1000000) (hsv:value.size<=1000000):
  Calls prog 189 #[.agg #[.int .i64 t,.int .i64 b,.int .i64 n,.int .u8 (k:Int),.int .i64 node,.int .i64 other,.string name,.string value],.int .i64 id] w fun e w'=>e= .returned (eV ad (gI id node other name.data.toList value.data.toList))/\Below w.heap.size w w':=by
 have g2:=fun o=>(hE.later ((vG _ _).alloc zg o)).c2
 have g3:=fun o=>(hE.later ((vG _ _).alloc zg o)).c3
 have hz2:4<w.heap.size:=vK w ⟨4,0,none⟩ hE.c2;have hz3:5<w.heap.size:=vK w ⟨5,0,none⟩ hE.c3;have hln:=bR name;have hlv:=bR value;clear hE;by_cases hsh:node<0\/id<=node\/other≠0
 ·rcases (by omega:(node<0\/id<=node)\/(0<=node/\node<id/\other≠0)) with h | ⟨h,h',h3⟩
  ·have hcode:gI id node other name.data.toList value.data.toList=3:=by unfold gI;rw [if_pos zj]
   rw [hcode];clear hsh;clear hcode hln hlv;go_enter func189,ntmps189;exact ka5
  have hcode:gI id node other name.data.toList value.data.toList=3:=by unfold gI;rw [if_pos zj]
  rw [hcode];have q0:(other !=0)=true:=zq;clear hsh;clear hcode hln hlv;go_enter func189,ntmps189;exact ka3
 obtain ⟨h1,h2,h3⟩:0<=node/\node<id/\other=0:=zj;have q0:(other !=0)=false:=zq
 cases hn:bC name.data.toList with
 | false=>
  have hcode:gI id node other name.data.toList value.data.toList=4:=by unfold gI;rw [if_neg hsh,if_pos hn]
  rw [hcode];clear hsh;clear hcode hln hlv;go_enter func189,ntmps189;exact ka3
 | true=>
  by_cases hv:12<value.size
  ·have e2:decide (12<(value.size:Int))=true:=by simp;omega
   have hcode:gI id node other name.data.toList value.data.toList=3:=by unfold gI;rw [if_neg hsh,if_neg yB,if_pos (.inl zj)]
   rw [hcode];clear hsh;clear hcode hln hlv;go_enter func189,ntmps189;exact ka3
  have e2:decide (12<(value.size:Int))=false:=zq
  cases hp:dD value.data.toList with
  | false=>
   have hcode:gI id node other name.data.toList value.data.toList=3:=by unfold gI;rw [if_neg hsh,if_neg yB,if_pos (.inr hp)]
   rw [hcode];clear hsh;clear hcode hln hlv;go_enter func189,ntmps189;exact ka4
  | true=>
   have hcode:gI id node other name.data.toList value.data.toList=0:=by unfold gI;rw [if_neg hsh,if_neg yB,if_neg qL]
   rw [hcode];clear hsh;clear hcode hln hlv;go_enter func189,ntmps189;exact ka4
theorem bA (t b n:Int) (k:Nat) (node other:Int) (name value:ByteArray) (w:World) (hE:Op4 ad w) (hsn:name.size<=1000000) (hsv:value.size<=1000000):
  Calls prog 123 #[.agg #[.int .i64 t,.int .i64 b,.int .i64 n,.int .u8 (k:Int),.int .i64 node,.int .i64 other,.string name,.string value]] w fun e w'=>e= .returned (eV ad (opE t b n k node other name.data.toList value.data.toList))/\Below w.heap.size w w':=by
 have O0:=OpAt.new w t b n k node other name value 61;have E0:=hE.later ((vG _ _).alloc zg (.cells #[.int .i64 t,.int .i64 b,.int .i64 n,.int .u8 (k:Int),.int .i64 node,.int .i64 other,.string name,.string value] 61));have B0:Below w.heap.size w (w.alloc (.cells #[.int .i64 t,.int .i64 b,.int .i64 n,.int .u8 (k:Int),.int .i64 node,.int .i64 other,.string name,.string value] 61)):=zh _ _;by_cases hst:1<=t/\t<=1073741824/\0<=b/\b<4
 ·obtain ⟨s1,s2,s3,s4⟩:=hst;by_cases h1:n<1
  ·have hcode:opE t b n k node other name.data.toList value.data.toList=2:=by unfold opE;rw [if_neg zj]
   rw [hcode];have d1:decide (n<1)=true:=zq;exact ka8
  have d1:decide (n<1)=false:=zq;by_cases h2:400<n
  ·have d2:decide (400<n)=true:=by simp;omega
   have hcode:opE t b n k node other name.data.toList value.data.toList=2:=xm;rw [hcode];exact ka8
  have d2:decide (400<n)=false:=zq;by_cases hk109:k=109
  ·have r109:((k:Int)==109)=true:=by simp;omega
   have hcode:opE t b n k node other name.data.toList value.data.toList=bK (t*4+b) node other name.data.toList value.data.toList:=by unfold opE;rw [if_pos zj];unfold fO;rw [if_pos hk109]
   rw [hcode];clear hk109;clear hcode;go_enter func123,ntmps123;go_wp2_with fail
   generalize w.alloc (.cells #[.int .i64 t,.int .i64 b,.int .i64 n,.int .u8 (k:Int),.int .i64 node,.int .i64 other,.string name,.string value] 61)=u at O0 E0 B0 |-
   refine (Bt _ _ _ s1 s2 s3 s4).mono ?_;rintro e w1 ⟨rfl,hb⟩;have O1:=O0.later hb;have E1:=E0.later hb;have B1:Below w.heap.size w w1:=zi B0 hb;clear hb O0 E0 B0;have z1:=vK w1 ⟨w.heap.size,0,none⟩ O1.c0;obtain ⟨x0,x1,x2,x3,x4,x5,x6,x7⟩:=O1;obtain ⟨y1,y2,y3,y4⟩:=id E1;go_wp2_with fail;refine (Ip (t*4+b) t b n k node other name value w1 E1 zj hsn hsv).mono ?_;exact kc6
  have r109:((k:Int)==109)=false:=zq;by_cases hk105:k=105
  ·have r105:((k:Int)==105)=true:=by simp;omega
   have hcode:opE t b n k node other name.data.toList value.data.toList=fE (t*4+b) node other name.data.toList value.data.toList:=by unfold opE;rw [if_pos zj];unfold fO;rw [if_neg hk109];rw [if_pos hk105]
   rw [hcode];clear hk109 hk105;clear hcode;go_enter func123,ntmps123;go_wp2_with fail
   generalize w.alloc (.cells #[.int .i64 t,.int .i64 b,.int .i64 n,.int .u8 (k:Int),.int .i64 node,.int .i64 other,.string name,.string value] 61)=u at O0 E0 B0 |-
   refine (Bt _ _ _ s1 s2 s3 s4).mono ?_;rintro e w1 ⟨rfl,hb⟩;have O1:=O0.later hb;have E1:=E0.later hb;have B1:Below w.heap.size w w1:=zi B0 hb;clear hb O0 E0 B0;have z1:=vK w1 ⟨w.heap.size,0,none⟩ O1.c0;obtain ⟨x0,x1,x2,x3,x4,x5,x6,x7⟩:=O1;obtain ⟨y1,y2,y3,y4⟩:=id E1;go_wp2_with fail;refine (Cv (t*4+b) t b n k node other name value w1 E1 zj hsn hsv).mono ?_;exact kc6
  have r105:((k:Int)==105)=false:=zq;by_cases hk100:k=100
  ·have r100:((k:Int)==100)=true:=by simp;omega
   have hcode:opE t b n k node other name.data.toList value.data.toList=gG (t*4+b) node other name.data.toList value.data.toList:=by unfold opE;rw [if_pos zj];unfold fO;rw [if_neg hk109];rw [if_neg hk105];rw [if_pos hk100]
   rw [hcode];clear hk109 hk105 hk100;clear hcode;go_enter func123,ntmps123;go_wp2_with fail
   generalize w.alloc (.cells #[.int .i64 t,.int .i64 b,.int .i64 n,.int .u8 (k:Int),.int .i64 node,.int .i64 other,.string name,.string value] 61)=u at O0 E0 B0 |-
   refine (Bt _ _ _ s1 s2 s3 s4).mono ?_;rintro e w1 ⟨rfl,hb⟩;have O1:=O0.later hb;have E1:=E0.later hb;have B1:Below w.heap.size w w1:=zi B0 hb;clear hb O0 E0 B0;have z1:=vK w1 ⟨w.heap.size,0,none⟩ O1.c0;obtain ⟨x0,x1,x2,x3,x4,x5,x6,x7⟩:=O1;obtain ⟨y1,y2,y3,y4⟩:=id E1;go_wp2_with fail;refine (BG (t*4+b) t b n k node other name value w1 E1 zj hsn hsv).mono ?_;exact kc6
  have r100:((k:Int)==100)=false:=zq;by_cases hk115:k=115
  ·have r115:((k:Int)==115)=true:=by simp;omega
   have hcode:opE t b n k node other name.data.toList value.data.toList=gI (t*4+b) node other name.data.toList value.data.toList:=by unfold opE;rw [if_pos zj];unfold fO;rw [if_neg hk109];rw [if_neg hk105];rw [if_neg hk100];rw [if_pos hk115]
   rw [hcode];clear hk109 hk105 hk100 hk115;clear hcode;go_enter func123,ntmps123;go_wp2_with fail
   generalize w.alloc (.cells #[.int .i64 t,.int .i64 b,.int .i64 n,.int .u8 (k:Int),.int .i64 node,.int .i64 other,.string name,.string value] 61)=u at O0 E0 B0 |-
   refine (Bt _ _ _ s1 s2 s3 s4).mono ?_;rintro e w1 ⟨rfl,hb⟩;have O1:=O0.later hb;have E1:=E0.later hb;have B1:Below w.heap.size w w1:=zi B0 hb;clear hb O0 E0 B0;have z1:=vK w1 ⟨w.heap.size,0,none⟩ O1.c0;obtain ⟨x0,x1,x2,x3,x4,x5,x6,x7⟩:=O1;obtain ⟨y1,y2,y3,y4⟩:=id E1;go_wp2_with fail;refine (KK (t*4+b) t b n k node other name value w1 E1 zj hsn hsv).mono ?_;exact kc6
  have r115:((k:Int)==115)=false:=zq
  have hcode:opE t b n k node other name.data.toList value.data.toList=5:=by unfold opE;rw [if_pos zj];unfold fO;rw [if_neg hk109];rw [if_neg hk105];rw [if_neg hk100];rw [if_neg hk115]
  rw [hcode];clear hk109 hk105 hk100 hk115;exact ka8
 have hcode:opE t b n k node other name.data.toList value.data.toList=2:=xm;rw [hcode];have HS:=Lib.hid hst;clear hcode hst;go_enter func123,ntmps123;go_wp2_with fail
 generalize w.alloc (.cells #[.int .i64 t,.int .i64 b,.int .i64 n,.int .u8 (k:Int),.int .i64 node,.int .i64 other,.string name,.string value] 61)=u at O0 E0 B0 |-
 refine (Nr t b u _ _ E0.c1 (vK u ⟨0,0,none⟩ E0.c1) HS.o).mono ?_;rintro e w1 ⟨rfl,hb⟩;have B1:Below w.heap.size w w1:=zi B0 hb;clear hb O0 E0 B0;exact ko2
end
section
open Go.RowKit
def Cyc (ad:Nat->Addr):Prop:=ad 100=⟨1,0,none⟩
structure EnvE (B:Nat) (ad:Nat->Addr) (w:World):Prop where
 op4:Op4 ad w
 c5:w.cell? ⟨1,0,none⟩=some (.iface 450 (.pointer (some (ad 5))))
 c6:w.cell? ⟨7,0,none⟩=some (.iface 450 (.pointer (some (ad 6))))
 c7:w.cell? ⟨2,0,none⟩=some (.iface 450 (.pointer (some (ad 7))))
 c8:w.cell? ⟨8,0,none⟩=some (.iface 450 (.pointer (some (ad 8))))
 c9:Cyc ad->w.cell? ⟨9,0,none⟩=some (.iface 450 (.pointer (some (ad 9))))
 low:13<=B
 size:B<=w.heap.size
theorem EnvE.mono (h:EnvE B ad w) (hb:Below B w w'):EnvE B ad w':=by
 have hl:=h.low
 have k:∀g v,g<B->w.cell? ⟨g,0,none⟩=some v->w'.cell? ⟨g,0,none⟩=some v:=fun g v hg e=>(hb.cell (p:=⟨g,0,none⟩) hg).trans e
 exact ⟨⟨k _ _ zj h.op4.c1,k _ _ zj h.op4.c2,k _ _ zj h.op4.c3,k _ _ zj h.op4.c4⟩,k _ _ zj h.c5,k _ _ zj h.c6,k _ _ zj h.c7,k _ _ zj h.c8,fun q=>k _ _ zj (h.c9 q),hl,vI h.size hb.size⟩
theorem EnvE.later (h:EnvE B ad w) (hb:Below w.heap.size w w'):EnvE B ad w':=h.mono (hb.mono h.size)
end
section
open scoped Classical
abbrev Ent:=Mov×Plc
structure LogTo (ms:List Mov) (i:Nat) (L:List Ent):Prop where
 movs:L.map (·.1)=ms
 from_:∀j x,j<i->L[j]? =some x->x.2=kL ms j
theorem LogTo.len {L:List Ent} (h:LogTo ms i L):L.length=ms.length:=by rw [<-h.movs];simp
theorem LogTo.mov {j:Nat} {L:List Ent} (h:LogTo ms i L) {x:Ent} (hx:L[j]? =some x):ms[j]? =some x.1:=by rw [<-h.movs];simp [hx]
theorem FP:LogTo [] 0 []:=⟨rfl,fun _ _ h=>zj⟩
theorem mM (h:ms[i]? =some m):kL ms i=(aO (ms.take i) m.2.1).getD cU:=by unfold kL;rw [h]
theorem rs {ms':List Mov} (h:ms.take (i+1)=ms'.take (i+1)):kL ms i=kL ms' i:=by
 have h1:ms[i]? =ms'[i]? :=by
  have e1:(ms.take (i+1))[i]? =ms[i]? :=by rw [Zd,if_pos zj]
  have e2:(ms'.take (i+1))[i]? =ms'[i]? :=by rw [Zd,if_pos zj]
  rw [<-e1,<-e2,h]
 have h2:ms.take i=ms'.take i:=by
  have e1:(ms.take (i+1)).take i=ms.take i:=xh;have e2:(ms'.take (i+1)).take i=ms'.take i:=xh;rw [<-e1,<-e2,h]
 unfold kL;rw [h1,h2]
def Dq (L:List Ent) (i:Nat) (x:Ent):List Ent:=L.take i++x::L.drop i
theorem Gj {L:List Ent} (h:LogTo ms ms.length L) (hi:i<=ms.length) (fr:Plc):LogTo (gH ms i m) i (Dq L i (m,fr)):=by
 refine ⟨?_,fun j x hj hx=> ?_⟩
 ·unfold Dq gH;simp [<-h.movs,List.map_take,List.map_drop]
 have hx':L[j]? =some x:=by
  unfold Dq at hx;rwa [ZJ (by simp;have:=h.len;omega),Zd,if_pos hj] at hx
 rw [h.from_ j x zj hx'];refine rs ?_;unfold gH;rw [ux zq,List.take_take];congr 1;omega
theorem Mf {L:List Ent} {x:Ent} (h:LogTo ms i L) (hx:L[i]? =some x):LogTo ms (i+1) (L.set i (x.1,kL ms i)):=by
 refine ⟨?_,fun j y hj hy=> ?_⟩
 ·rw [<-h.movs,List.map_set];apply List.ext_getElem?;intro j;by_cases e:j=i
  ·subst e;have hl:=(vA.1 hx).1;rw [Zk qi];simp [hx]
  rw [Zx zj]
 by_cases e:j=i
 ·subst e;rw [Zk (vA.1 hx).1] at hy
  cases hy
  rfl
 rw [Zx zj] at hy;exact h.from_ j y zj hy
def sm (ms:List Mov) (s:Int×Int) (i:Nat) (b:Bool):Prop:=
 (b=true/\∃m,ms[i]? =some m/\m.1=s)\/(b=false/\i<=ms.length/\(∀x∈ms.take i,SLt x.1 s)/\∀x∈ms.drop i,SLt s x.1)
def Bc (ms:List Mov) (s:Int×Int) (i:Nat):Prop:=∀x∈ms.drop i,SLt s x.1
theorem DI (ms:List Mov) (s:Int×Int):Bc ms s ms.length:=fun x hx=>zW
theorem Cw (h:ms[i]? =some m) (e:m.1=s):sm ms s i true:=.inl ⟨rfl,m,h,e⟩
theorem By (hb:bQ ms) (hl:Bc ms s (i+1)) (h:ms[i]? =some m) (e:SLt m.1 s):sm ms s (i+1) false:=by
 have hi:=(vA.1 h).1;refine .inr ⟨rfl,zj,fun x hx=> ?_,hl⟩;rw [uA,h] at hx
 rcases vL.1 hx with hx | hx
 ·refine iR ?_ e
  have hp:(ms.take i++ms.drop i).Pairwise (fun a b=>SLt a.1 b.1):=by rw [ui];exact hb
  refine (uX.1 hp).2.2 x hx m ?_;rw [Zf];exact ⟨0,by rw [uP,uZ,h]⟩
 simp at hx;rw [hx];exact e
theorem Bf (hl:Bc ms s (i+1)) (h:ms[i]? =some m) (ne:m.1≠s) (nl:¬SLt m.1 s):Bc ms s i:=by
 intro x hx
 have hi:=(vA.1 h)
 rw [uK hi.1] at hx
 rcases vJ.1 hx with rfl | hx
 ·rw [hi.2];exact En ne nl
 exact hl x hx
theorem tP (hl:Bc ms s 0):sm ms s 0 false:=.inr ⟨rfl,vM _,fun x hx=>zW,hl⟩
theorem Fy {b:Bool} (h:sm ms s i b) (hn:∀m∈ms,m.1≠s):b=false/\i<=ms.length/\(∀x∈ms.take i,SLt x.1 s)/\∀x∈ms.drop i,SLt s x.1:=by
 rcases h with ⟨_,m,hm,e⟩ | h
 ·exact absurd e (hn m (vH hm))
 exact h
end
section
open Go.RowKit Go.Maps
theorem JD (w:World):(zeroValue 119).run prog w= .ok (kC cU) w:=zeroValue119 w
theorem MapAt.looks (h:MapAt prog 3 w b n f) (hk:Wf k):
  (Instr.lookup 193 (.map (some b)) (.int .i64 k) true).run prog w= .ok (.tuple #[kC ((f k).getD cU),.bool (f k).isSome]) w:=
 h.look underlying3 underlying193 (JD w) hk
theorem MapAt.looks1 (h:MapAt prog 3 w b n f) (hk:Wf k):
  (Instr.lookup 193 (.map (some b)) (.int .i64 k) false).run prog w= .ok (kC ((f k).getD cU)) w:=
 h.look1 underlying3 underlying193 (JD w) hk
theorem Kx (w:World):Calls prog 66 #[] w fun e w'=>e= .returned (.pointer (some ⟨w.heap.size+1,0,none⟩))/\w'=(w.alloc (.map #[] 0)).alloc (.cells #[.map (some w.heap.size),.slice none 0 0] 196):=by
 have hmm:= @run_makeMap prog;go_enter func66,ntmps66;exact kb3
end
section
open Go Go.RowKit Go.Lib Go.Sort
theorem kh (h:OpsAt w v xs):∃ao cap,v= .slice ao xs.length cap/\OpsIn w ao xs:=by
 rcases h with ⟨rfl,rfl⟩ | ⟨b,o,cp,rfl,hc⟩
 ·exact ⟨none,0,rfl,.inl rfl⟩
 exact ⟨some ⟨b,o,none⟩,cp,rfl,.inr ⟨b,o,rfl,hc⟩⟩
def pd (w:World) (ao:Option Addr) (i:Nat) (x:OpX):Prop:=∃blk off,ao=some ⟨blk,off,none⟩/\Eight w blk (off+i*8) x.1 x.2.1 x.2.2.1 x.2.2.2.1 x.2.2.2.2.1 x.2.2.2.2.2.1 x.2.2.2.2.2.2.1 x.2.2.2.2.2.2.2
theorem OpsIn.one {ao:Option Addr} (h:OpsIn w ao xs) {x:OpX} (hx:xs[i]? =some x):pd w ao i x:=by
 have hi:=(vA.1 hx).1
 rcases h with rfl | ⟨blk,off,rfl,hc⟩
 ·simp at hi
 obtain ⟨t,b,n,kd,nd,o,s,v⟩:=x;refine ⟨blk,off,rfl,iB hc i hi ?_⟩;rw [getElem!_pos xs i hi];exact (vA.1 hx).2
end
section
open Go.RowKit
theorem BZ (t b t' b':Int) (w:World):
  Calls prog 27 #[.agg #[.int .i64 t,.int .i64 b],.agg #[.int .i64 t',.int .i64 b']] w fun e w'=>e= .returned (.bool (bM t b t' b'))/\Below w.heap.size w w':=by
 unfold bM;by_cases h:t=t'
 ·have hl:decide (t<t')=false:=by simp;omega
  have hd:(t==t')=true:=xQ;rw [if_pos h];clear h;go_enter func27,ntmps27;exact ke2
 by_cases hlt:t<t'
 ·have hl:decide (t<t')=true:=by simp;omega
  rw [if_neg h,hl];clear h;go_enter func27,ntmps27;exact ke2
 have hl:decide (t<t')=false:=zq;have hd:(t==t')=false:=xQ;rw [if_neg h,hl];clear h;go_enter func27,ntmps27;exact ke2
end
section
open Go.ChangeShapes Go.WideShapes Go.ChangeAt Go.RowKit Go.Joins
theorem gPow:prog.globalNamed "internal/strconv.uint64pow10" =some 13:=zo
theorem tPow:(prog.globals[13]?).map (·.type)=some 368:=zo
theorem Iu:prog.cellsOf 368=20:=zo
theorem IK:prog.cellsOf 325=1:=zo
theorem Mx {W:World} (h:Lib.VarReads prog W "internal/strconv.uint64pow10" (Lib.tabData .u64 Lib.pow10Tab)):Lib.TabIs prog W "internal/strconv.uint64pow10" .u64 Lib.pow10Tab:=by
 obtain ⟨g,t,cs,fuel,p,hg,ht,hvar,hd⟩:=h;obtain rfl:=Option.some.inj (gPow.symm.trans hg);obtain rfl:=Option.some.inj (tPow.symm.trans ht);unfold Lib.TabIs;rw [hvar,<-Lib.cells_of_tab underlying368 underlying325 IK Iu hd]
