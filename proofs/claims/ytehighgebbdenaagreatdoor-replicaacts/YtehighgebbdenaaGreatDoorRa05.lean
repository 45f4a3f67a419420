import Derived.Test.YtehighgebbdenaaGreatDoorRa04
set_option maxHeartbeats 64000000
namespace Go.Proofs.YtehighgebbdenaaGreatDoor
open Go.Proofs.Tryz
variable {s:ByteArray} {ad:Nat→Addr} {w w':World}
section
open Go.RowKit
theorem tZ (s:ByteArray) (b:Bool) (w:World) (hs:s.size<=1000000) (h:cQ s.data.toList=b):
  Calls prog 221 #[.string s] w fun e w'=>e= .returned (.bool b)/\w'=w:=by rw [<-h];exact GD s w hs
theorem sm (s:ByteArray) (b:Bool) (w:World) (hs:s.size<=1000000) (h:dy s.data.toList=b):
  Calls prog 222 #[.string s] w fun e w'=>e= .returned (.bool b)/\w'=w:=by rw [<-h];exact Fz s w hs
theorem cw (h:s.data.toList= []):s.toList.isEmpty=true:=by rw [uH,h];rfl
theorem dF (h:s.data.toList≠ []):s.toList.isEmpty=false:=by
 rw [uH]
 cases hd:s.data.toList with
 | nil=>exact absurd hd h
 | cons a r=>rfl
theorem bM (s:ByteArray):s.data.toList.length=s.size:=zv
def eV (ad:Nat->Addr) (c:Nat):Value:=if c=0 then .nilIface else .iface 399 (.pointer (some (ad (c - 1))))
structure Op4 (ad:Nat->Addr) (w:World):Prop where
 c1:w.cell? ⟨2,0,none⟩=some (.iface 399 (.pointer (some (ad 1))))
 c2:w.cell? ⟨4,0,none⟩=some (.iface 399 (.pointer (some (ad 2))))
 c3:w.cell? ⟨5,0,none⟩=some (.iface 399 (.pointer (some (ad 3))))
 c4:w.cell? ⟨6,0,none⟩=some (.iface 399 (.pointer (some (ad 4))))
theorem bq {b o:Nat} {v:Value} (hb:Below w.heap.size w w') (h:w.cell? ⟨b,o,none⟩=some v):w'.cell? ⟨b,o,none⟩=some v:=by
 exact kh7
theorem Op4.later (h:Op4 ad w) (hb:Below w.heap.size w w'):Op4 ad w':=
 ⟨bq hb h.c1,bq hb h.c2,bq hb h.c3,bq hb h.c4⟩
structure OpAt (w:World) (a:Nat) (t b n:Int) (k:Nat) (node other:Int) (name value:ByteArray):Prop where
 c0:w.cell? ⟨a,0,none⟩=some (.int .i64 t)
 c1:w.cell? ⟨a,1,none⟩=some (.int .i64 b)
 c2:w.cell? ⟨a,2,none⟩=some (.int .i64 n)
 c3:w.cell? ⟨a,3,none⟩=some (.int .u8 (k:Int))
 c4:w.cell? ⟨a,4,none⟩=some (.int .i64 node)
 c5:w.cell? ⟨a,5,none⟩=some (.int .i64 other)
 c6:w.cell? ⟨a,6,none⟩=some (.string name)
 c7:w.cell? ⟨a,7,none⟩=some (.string value)
theorem OpAt.later {a:Nat} {t b n:Int} {k:Nat} {node other:Int} {name value:ByteArray} (h:OpAt w a t b n k node other name value) (hb:Below w.heap.size w w'):OpAt w' a t b n k node other name value:=
 ⟨bq hb h.c0,bq hb h.c1,bq hb h.c2,bq hb h.c3,bq hb h.c4,bq hb h.c5,bq hb h.c6,bq hb h.c7⟩
theorem OpAt.new (w:World) (t b n:Int) (k:Nat) (node other:Int) (name value:ByteArray) (T:TypeId):OpAt (w.alloc (.cells #[.int .i64 t,.int .i64 b,.int .i64 n,.int .u8 (k:Int),.int .i64 node,.int .i64 other,.string name,.string value] T)) w.heap.size t b n k node other name value:=by
 constructor<;>simp [go_sem]
theorem Gl (id:Int) (t b n:Int) (k:Nat) (node other:Int) (name value:ByteArray) (w:World) (hE:Op4 ad w) (hid:4<=id) (hsn:name.size<=1000000) (_hsv:value.size<=1000000):
  Calls prog 177 #[.agg #[.int .i64 t,.int .i64 b,.int .i64 n,.int .u8 (k:Int),.int .i64 node,.int .i64 other,.string name,.string value],.int .i64 id] w fun e w'=>e= .returned (eV ad (bF id node other name.data.toList value.data.toList))/\Below w.heap.size w w':=by
 have g2:=fun o=>(hE.later ((vP _ _).alloc zg o)).c2
 have g3:=fun o=>(hE.later ((vP _ _).alloc zg o)).c3
 have hz2:4<w.heap.size:=vR w ⟨4,0,none⟩ hE.c2;have hz3:5<w.heap.size:=vR w ⟨5,0,none⟩ hE.c3;have hln:=bM name;have hlv:=bM value;clear hE;by_cases hsh:node<2\/id<node\/other<0\/id<=other
 ·rcases (by omega:node=0\/node=1\/node<0\/id<node\/(2<=node/\node<id)\/node=id) with h | h | h | h | ⟨h,h'⟩ | h
  ·have hcode:bF id node other name.data.toList value.data.toList=3:=by unfold bF;rw [if_pos zo]
   rw [hcode];have q0:(node==0)=true:=zr;clear hsh;clear hcode hln hlv;go_enter func177,ntmps177;exact ka5
  ·have hcode:bF id node other name.data.toList value.data.toList=3:=by unfold bF;rw [if_pos zo]
   rw [hcode];have q0:(node==0)=false:=zr;have q1:(node==1)=true:=zr;clear hsh;clear hcode hln hlv;go_enter func177,ntmps177;exact ka5
  ·have hcode:bF id node other name.data.toList value.data.toList=3:=by unfold bF;rw [if_pos zo]
   rw [hcode];have q0:(node==0)=false:=zr;have q1:(node==1)=false:=zr;have q2:(node !=id)=true:=zr;clear hsh;clear hcode hln hlv;go_enter func177,ntmps177;exact ka5
  ·have hcode:bF id node other name.data.toList value.data.toList=3:=by unfold bF;rw [if_pos zo]
   rw [hcode];have q0:(node==0)=false:=zr;have q1:(node==1)=false:=zr;have q2:(node !=id)=true:=zr;clear hsh;clear hcode hln hlv;go_enter func177,ntmps177;exact ka5
  ·have hcode:bF id node other name.data.toList value.data.toList=3:=by unfold bF;rw [if_pos zo]
   rw [hcode];have q0:(node==0)=false:=zr;have q1:(node==1)=false:=zr;have h3:other<0\/id<=other:=zo;clear hsh;clear hcode hln hlv;go_enter func177,ntmps177;exact ka5
  have hcode:bF id node other name.data.toList value.data.toList=3:=by unfold bF;rw [if_pos zo]
  rw [hcode];have q0:(node==0)=false:=zr;have q1:(node==1)=false:=zr;have q2:(node !=id)=false:=zr;have h3:other<0\/id<=other:=zo;clear hsh;clear hcode hln hlv;go_enter func177,ntmps177;exact ka3
 have o1:0<=other:=zo;have o2:other<id:=zo
 rcases (by omega:(2<=node/\node<id)\/node=id) with ⟨h,h'⟩ | h
 ·cases hn:cQ name.data.toList with
  | false=>
   have hcode:bF id node other name.data.toList value.data.toList=4:=by unfold bF;rw [if_neg hsh,if_pos hn]
   rw [hcode];have q0:(node==0)=false:=zr;have q1:(node==1)=false:=zr;clear hsh;clear hcode hln hlv;go_enter func177,ntmps177;exact ka3
  | true=>
   by_cases hv:value.data.toList= []
   ·have hcode:bF id node other name.data.toList value.data.toList=0:=by unfold bF;rw [if_neg hsh,if_neg yE,if_neg qR]
    rw [hcode];have q0:(node==0)=false:=zr;have q1:(node==1)=false:=zr;have e1:=cw hv;clear hsh hv;clear hcode hln hlv;go_enter func177,ntmps177;exact ka3
   have hcode:bF id node other name.data.toList value.data.toList=3:=xD;rw [hcode];have q0:(node==0)=false:=zr;have q1:(node==1)=false:=zr;have e1:=dF hv;clear hsh hv;clear hcode hln hlv;go_enter func177,ntmps177;exact ka4
 cases hn:cQ name.data.toList with
 | false=>
  have hcode:bF id node other name.data.toList value.data.toList=4:=by unfold bF;rw [if_neg hsh,if_pos hn]
  rw [hcode];have q0:(node==0)=false:=zr;have q1:(node==1)=false:=zr;have q2:(node !=id)=false:=zr;clear hsh;clear hcode hln hlv;go_enter func177,ntmps177;exact ka4
 | true=>
  by_cases hv:value.data.toList= []
  ·have hcode:bF id node other name.data.toList value.data.toList=0:=by unfold bF;rw [if_neg hsh,if_neg yE,if_neg qR]
   rw [hcode];have q0:(node==0)=false:=zr;have q1:(node==1)=false:=zr;have q2:(node !=id)=false:=zr;have e1:=cw hv;clear hsh hv;clear hcode hln hlv;go_enter func177,ntmps177;exact ka4
  have hcode:bF id node other name.data.toList value.data.toList=3:=xD;rw [hcode];have q0:(node==0)=false:=zr;have q1:(node==1)=false:=zr;have q2:(node !=id)=false:=zr;have e1:=dF hv;clear hsh hv;clear hcode hln hlv;go_enter func177,ntmps177;exact ka4
theorem Am (id:Int) (t b n:Int) (k:Nat) (node other:Int) (name value:ByteArray) (w:World) (hE:Op4 ad w) (_hid:4<=id) (_hsn:name.size<=1000000) (hsv:value.size<=1000000):
  Calls prog 178 #[.agg #[.int .i64 t,.int .i64 b,.int .i64 n,.int .u8 (k:Int),.int .i64 node,.int .i64 other,.string name,.string value],.int .i64 id] w fun e w'=>e= .returned (eV ad (gV id node other name.data.toList value.data.toList))/\Below w.heap.size w w':=by
 have g2:=fun o=>(hE.later ((vP _ _).alloc zg o)).c2
 have g3:=fun o=>(hE.later ((vP _ _).alloc zg o)).c3
 have hz2:4<w.heap.size:=vR w ⟨4,0,none⟩ hE.c2;have hz3:5<w.heap.size:=vR w ⟨5,0,none⟩ hE.c3;have hln:=bM name;have hlv:=bM value;clear hE;by_cases hsh:node<0\/id<=node\/other<0\/id<=other
 ·rcases (by omega:(node<0\/id<=node)\/((0<=node/\node<id)/\(other<0\/id<=other))) with h | ⟨⟨h,h'⟩,h3⟩
  ·have hcode:gV id node other name.data.toList value.data.toList=3:=by unfold gV;rw [if_pos zo]
   rw [hcode];clear hsh;clear hcode hln hlv;go_enter func178,ntmps178;exact ka5
  have hcode:gV id node other name.data.toList value.data.toList=3:=by unfold gV;rw [if_pos zo]
  rw [hcode];clear hsh;clear hcode hln hlv;go_enter func178,ntmps178;exact ka3
 obtain ⟨h1,h2,h3,h4⟩:0<=node/\node<id/\0<=other/\other<id:=zo;by_cases hn:name.data.toList= []
 ·have e1:=cw hn;by_cases hv:value.size=1
  ·have e2:((value.size:Int) !=1)=false:=by simp;omega
   cases hp:dy value.data.toList with
   | false=>
    have hcode:gV id node other name.data.toList value.data.toList=3:=by unfold gV;rw [if_neg hsh,if_neg yE,if_pos (.inr hp)]
    rw [hcode];clear hsh hn hv;clear hcode hln hlv;go_enter func178,ntmps178;exact ka3
   | true=>
    have hcode:gV id node other name.data.toList value.data.toList=0:=by unfold gV;rw [if_neg hsh,if_neg yE,if_neg qN]
    rw [hcode];clear hsh hn hv;clear hcode hln hlv;go_enter func178,ntmps178;exact ka3
  have e2:((value.size:Int) !=1)=true:=zr
  have hcode:gV id node other name.data.toList value.data.toList=3:=by unfold gV;rw [if_neg hsh,if_neg yE,if_pos (.inl zo)]
  rw [hcode];clear hsh hn hv;clear hcode hln hlv;go_enter func178,ntmps178;exact ka4
 have e1:=dF hn
 have hcode:gV id node other name.data.toList value.data.toList=4:=by unfold gV;rw [if_neg hsh,if_pos hn]
 rw [hcode];clear hsh hn;clear hcode hln hlv;go_enter func178,ntmps178;exact ka4
theorem CQ (id:Int) (t b n:Int) (k:Nat) (node other:Int) (name value:ByteArray) (w:World) (hE:Op4 ad w) (hid:4<=id) (_hsn:name.size<=1000000) (_hsv:value.size<=1000000):
  Calls prog 179 #[.agg #[.int .i64 t,.int .i64 b,.int .i64 n,.int .u8 (k:Int),.int .i64 node,.int .i64 other,.string name,.string value],.int .i64 id] w fun e w'=>e= .returned (eV ad (gu id node other name.data.toList value.data.toList))/\Below w.heap.size w w':=by
 have g2:=fun o=>(hE.later ((vP _ _).alloc zg o)).c2
 have g3:=fun o=>(hE.later ((vP _ _).alloc zg o)).c3
 have hz2:4<w.heap.size:=vR w ⟨4,0,none⟩ hE.c2;have hz3:5<w.heap.size:=vR w ⟨5,0,none⟩ hE.c3;have hln:=bM name;have hlv:=bM value;clear hE;by_cases hsh:node<0\/id<=node\/other<0\/id<=other\/other=0
 ·rcases (by omega:(node<0\/id<=node)\/((0<=node/\node<id)/\(other<0\/id<=other))\/(0<=node/\node<id/\other=0)) with h | ⟨⟨h,h'⟩,h3⟩ | ⟨h,h',h3⟩
  ·have hcode:gu id node other name.data.toList value.data.toList=3:=by unfold gu;rw [if_pos zo]
   rw [hcode];clear hsh;clear hcode hln hlv;go_enter func179,ntmps179;exact ka5
  ·have hcode:gu id node other name.data.toList value.data.toList=3:=by unfold gu;rw [if_pos zo]
   rw [hcode];clear hsh;clear hcode hln hlv;go_enter func179,ntmps179;exact ka5
  have hcode:gu id node other name.data.toList value.data.toList=3:=by unfold gu;rw [if_pos zo]
  rw [hcode];have q0:(other==0)=true:=zr;clear hsh;clear hcode hln hlv;go_enter func179,ntmps179;exact ka3
 obtain ⟨h1,h2,h3,h4,h5⟩:0<=node/\node<id/\0<=other/\other<id/\other≠0:=zo;have q0:(other==0)=false:=zr;by_cases hn:name.data.toList= []
 ·have e1:=cw hn;by_cases hv:value.data.toList= []
  ·have e2:=cw hv
   have hcode:gu id node other name.data.toList value.data.toList=0:=by unfold gu;rw [if_neg hsh,if_neg yE,if_neg qR]
   rw [hcode];clear hsh hn hv;clear hcode hln hlv;go_enter func179,ntmps179;exact ka3
  have e2:=dF hv
  have hcode:gu id node other name.data.toList value.data.toList=3:=by unfold gu;rw [if_neg hsh,if_neg yE,if_pos hv]
  rw [hcode];clear hsh hn hv;clear hcode hln hlv;go_enter func179,ntmps179;exact ka4
 have e1:=dF hn
 have hcode:gu id node other name.data.toList value.data.toList=4:=by unfold gu;rw [if_neg hsh,if_pos hn]
 rw [hcode];clear hsh hn;clear hcode hln hlv;go_enter func179,ntmps179;exact ka4
theorem Ie (id:Int) (t b n:Int) (k:Nat) (node other:Int) (name value:ByteArray) (w:World) (hE:Op4 ad w) (_hid:4<=id) (hsn:name.size<=1000000) (hsv:value.size<=1000000):
  Calls prog 180 #[.agg #[.int .i64 t,.int .i64 b,.int .i64 n,.int .u8 (k:Int),.int .i64 node,.int .i64 other,.string name,.string value],.int .i64 id] w fun e w'=>e= .returned (eV ad (gy id node other name.data.toList value.data.toList))/\Below w.heap.size w w':=by
 have g2:=fun o=>(hE.later ((vP _ _).alloc zg o)).c2
 have g3:=fun o=>(hE.later ((vP _ _).alloc zg o)).c3
 have hz2:4<w.heap.size:=vR w ⟨4,0,none⟩ hE.c2;have hz3:5<w.heap.size:=vR w ⟨5,0,none⟩ hE.c3;have hln:=bM name;have hlv:=bM value;clear hE;by_cases hsh:node<0\/id<=node\/other≠0
 ·rcases (by omega:(node<0\/id<=node)\/(0<=node/\node<id/\other≠0)) with h | ⟨h,h',h3⟩
  ·have hcode:gy id node other name.data.toList value.data.toList=3:=by unfold gy;rw [if_pos zo]
   rw [hcode];clear hsh;clear hcode hln hlv;go_enter func180,ntmps180;exact ka5
  have hcode:gy id node other name.data.toList value.data.toList=3:=by unfold gy;rw [if_pos zo]
  rw [hcode];have q0:(other !=0)=true:=zr;clear hsh;clear hcode hln hlv;go_enter func180,ntmps180;exact ka3
 obtain ⟨h1,h2,h3⟩:0<=node/\node<id/\other=0:=zo;have q0:(other !=0)=false:=zr
 cases hn:cQ name.data.toList with
 | false=>
  have hcode:gy id node other name.data.toList value.data.toList=4:=by unfold gy;rw [if_neg hsh,if_pos hn]
  rw [hcode];clear hsh;clear hcode hln hlv;go_enter func180,ntmps180;exact ka3
 | true=>
  by_cases hv:12<value.size
  ·have e2:decide (12<(value.size:Int))=true:=by simp;omega
   have hcode:gy id node other name.data.toList value.data.toList=3:=by unfold gy;rw [if_neg hsh,if_neg yE,if_pos (.inl zo)]
   rw [hcode];clear hsh;clear hcode hln hlv;go_enter func180,ntmps180;exact ka3
  have e2:decide (12<(value.size:Int))=false:=zr
  cases hp:dy value.data.toList with
  | false=>
   have hcode:gy id node other name.data.toList value.data.toList=3:=by unfold gy;rw [if_neg hsh,if_neg yE,if_pos (.inr hp)]
   rw [hcode];clear hsh;clear hcode hln hlv;go_enter func180,ntmps180;exact ka4
  | true=>
   have hcode:gy id node other name.data.toList value.data.toList=0:=by unfold gy;rw [if_neg hsh,if_neg yE,if_neg qN]
   rw [hcode];clear hsh;clear hcode hln hlv;go_enter func180,ntmps180;exact ka4
theorem cN (t b n:Int) (k:Nat) (node other:Int) (name value:ByteArray) (w:World) (hE:Op4 ad w) (hsn:name.size<=1000000) (hsv:value.size<=1000000):
  Calls prog 110 #[.agg #[.int .i64 t,.int .i64 b,.int .i64 n,.int .u8 (k:Int),.int .i64 node,.int .i64 other,.string name,.string value]] w fun e w'=>e= .returned (eV ad (opE t b n k node other name.data.toList value.data.toList))/\Below w.heap.size w w':=by
 have O0:=OpAt.new w t b n k node other name value 38;have E0:=hE.later ((vP _ _).alloc zg (.cells #[.int .i64 t,.int .i64 b,.int .i64 n,.int .u8 (k:Int),.int .i64 node,.int .i64 other,.string name,.string value] 38));have B0:Below w.heap.size w (w.alloc (.cells #[.int .i64 t,.int .i64 b,.int .i64 n,.int .u8 (k:Int),.int .i64 node,.int .i64 other,.string name,.string value] 38)):=zh _ _;by_cases hst:1<=t/\t<=1073741824/\0<=b/\b<4
 ·obtain ⟨s1,s2,s3,s4⟩:=hst;by_cases h1:n<1
  ·have hcode:opE t b n k node other name.data.toList value.data.toList=2:=by unfold opE;rw [if_neg zo]
   rw [hcode];have d1:decide (n<1)=true:=zr;exact ka8
  have d1:decide (n<1)=false:=zr;by_cases h2:400<n
  ·have d2:decide (400<n)=true:=by simp;omega
   have hcode:opE t b n k node other name.data.toList value.data.toList=2:=xl;rw [hcode];exact ka8
  have d2:decide (400<n)=false:=zr;by_cases hk109:k=109
  ·have r109:((k:Int)==109)=true:=by simp;omega
   have hcode:opE t b n k node other name.data.toList value.data.toList=bF (t*4+b) node other name.data.toList value.data.toList:=by unfold opE;rw [if_pos zo];unfold fi;rw [if_pos hk109]
   rw [hcode];clear hk109;clear hcode;go_enter func110,ntmps110;go_wp2_with fail
   generalize w.alloc (.cells #[.int .i64 t,.int .i64 b,.int .i64 n,.int .u8 (k:Int),.int .i64 node,.int .i64 other,.string name,.string value] 38)=u at O0 E0 B0 |-
   refine (BO _ _ _ s1 s2 s3 s4).mono ?_;rintro e w1 ⟨rfl,hb⟩;have O1:=O0.later hb;have E1:=E0.later hb;have B1:Below w.heap.size w w1:=zj B0 hb;clear hb O0 E0 B0;have z1:=vR w1 ⟨w.heap.size,0,none⟩ O1.c0;obtain ⟨x0,x1,x2,x3,x4,x5,x6,x7⟩:=O1;obtain ⟨y1,y2,y3,y4⟩:=id E1;go_wp2_with fail;refine (Gl (t*4+b) t b n k node other name value w1 E1 zo hsn hsv).mono ?_;exact kc9
  have r109:((k:Int)==109)=false:=zr;by_cases hk105:k=105
  ·have r105:((k:Int)==105)=true:=by simp;omega
   have hcode:opE t b n k node other name.data.toList value.data.toList=gV (t*4+b) node other name.data.toList value.data.toList:=by unfold opE;rw [if_pos zo];unfold fi;rw [if_neg hk109];rw [if_pos hk105]
   rw [hcode];clear hk109 hk105;clear hcode;go_enter func110,ntmps110;go_wp2_with fail
   generalize w.alloc (.cells #[.int .i64 t,.int .i64 b,.int .i64 n,.int .u8 (k:Int),.int .i64 node,.int .i64 other,.string name,.string value] 38)=u at O0 E0 B0 |-
   refine (BO _ _ _ s1 s2 s3 s4).mono ?_;rintro e w1 ⟨rfl,hb⟩;have O1:=O0.later hb;have E1:=E0.later hb;have B1:Below w.heap.size w w1:=zj B0 hb;clear hb O0 E0 B0;have z1:=vR w1 ⟨w.heap.size,0,none⟩ O1.c0;obtain ⟨x0,x1,x2,x3,x4,x5,x6,x7⟩:=O1;obtain ⟨y1,y2,y3,y4⟩:=id E1;go_wp2_with fail;refine (Am (t*4+b) t b n k node other name value w1 E1 zo hsn hsv).mono ?_;exact kc9
  have r105:((k:Int)==105)=false:=zr;by_cases hk100:k=100
  ·have r100:((k:Int)==100)=true:=by simp;omega
   have hcode:opE t b n k node other name.data.toList value.data.toList=gu (t*4+b) node other name.data.toList value.data.toList:=by unfold opE;rw [if_pos zo];unfold fi;rw [if_neg hk109];rw [if_neg hk105];rw [if_pos hk100]
   rw [hcode];clear hk109 hk105 hk100;clear hcode;go_enter func110,ntmps110;go_wp2_with fail
   generalize w.alloc (.cells #[.int .i64 t,.int .i64 b,.int .i64 n,.int .u8 (k:Int),.int .i64 node,.int .i64 other,.string name,.string value] 38)=u at O0 E0 B0 |-
   refine (BO _ _ _ s1 s2 s3 s4).mono ?_;rintro e w1 ⟨rfl,hb⟩;have O1:=O0.later hb;have E1:=E0.later hb;have B1:Below w.heap.size w w1:=zj B0 hb;clear hb O0 E0 B0;have z1:=vR w1 ⟨w.heap.size,0,none⟩ O1.c0;obtain ⟨x0,x1,x2,x3,x4,x5,x6,x7⟩:=O1;obtain ⟨y1,y2,y3,y4⟩:=id E1;go_wp2_with fail;refine (CQ (t*4+b) t b n k node other name value w1 E1 zo hsn hsv).mono ?_;exact kc9
  have r100:((k:Int)==100)=false:=zr;by_cases hk115:k=115
  ·have r115:((k:Int)==115)=true:=by simp;omega
   have hcode:opE t b n k node other name.data.toList value.data.toList=gy (t*4+b) node other name.data.toList value.data.toList:=by unfold opE;rw [if_pos zo];unfold fi;rw [if_neg hk109];rw [if_neg hk105];rw [if_neg hk100];rw [if_pos hk115]
   rw [hcode];clear hk109 hk105 hk100 hk115;clear hcode;go_enter func110,ntmps110;go_wp2_with fail
   generalize w.alloc (.cells #[.int .i64 t,.int .i64 b,.int .i64 n,.int .u8 (k:Int),.int .i64 node,.int .i64 other,.string name,.string value] 38)=u at O0 E0 B0 |-
   refine (BO _ _ _ s1 s2 s3 s4).mono ?_;rintro e w1 ⟨rfl,hb⟩;have O1:=O0.later hb;have E1:=E0.later hb;have B1:Below w.heap.size w w1:=zj B0 hb;clear hb O0 E0 B0;have z1:=vR w1 ⟨w.heap.size,0,none⟩ O1.c0;obtain ⟨x0,x1,x2,x3,x4,x5,x6,x7⟩:=O1;obtain ⟨y1,y2,y3,y4⟩:=id E1;go_wp2_with fail;refine (Ie (t*4+b) t b n k node other name value w1 E1 zo hsn hsv).mono ?_;exact kc9
  have r115:((k:Int)==115)=false:=zr
  have hcode:opE t b n k node other name.data.toList value.data.toList=5:=by unfold opE;rw [if_pos zo];unfold fi;rw [if_neg hk109];rw [if_neg hk105];rw [if_neg hk100];rw [if_neg hk115]
  rw [hcode];clear hk109 hk105 hk100 hk115;exact ka8
 have hcode:opE t b n k node other name.data.toList value.data.toList=2:=xl;rw [hcode];have HS:=Lib.hid hst;clear hcode hst;go_enter func110,ntmps110;go_wp2_with fail
 generalize w.alloc (.cells #[.int .i64 t,.int .i64 b,.int .i64 n,.int .u8 (k:Int),.int .i64 node,.int .i64 other,.string name,.string value] 38)=u at O0 E0 B0 |-
 refine (LD t b u _ _ E0.c1 (vR u ⟨2,0,none⟩ E0.c1) HS.o).mono ?_;rintro e w1 ⟨rfl,hb⟩;have B1:Below w.heap.size w w1:=zj B0 hb;clear hb O0 E0 B0;go_wp2;go_ret;exact ⟨rfl,B1⟩
