import Derived.Test.YtebpcnkdhgnghaaGreatDoorPA01
import Derived.Test.YtebpcnkdhgnghaaGreatDoorPA02
set_option linter.unusedSimpArgs false
set_option linter.unusedVariables false
set_option maxHeartbeats 64000000
section
namespace Go.Proofs.YtebpcnkdhgnghaaGreatDoor
open Go.Proofs.Tryz
open Go.RowKit
variable {s:ByteArray} {ad:Nat→Addr} {w w':World}
theorem sF (s:ByteArray) (b:Bool) (w:World) (hs:s.size<=1000000) (h:cO s.data.toList=b):
  Calls prog 251 #[.string s] w fun e w'=>e= .returned (.bool b)/\w'=w:=by rw [<-h];exact Gt s w hs
theorem wZ (s:ByteArray) (b:Bool) (w:World) (hs:s.size<=1000000) (h:mY s.data.toList=b):
  Calls prog 252 #[.string s] w fun e w'=>e= .returned (.bool b)/\w'=w:=by rw [<-h];exact IQ s w hs
theorem fQ (h:s.data.toList= []):s.toList.isEmpty=true:=by rw [vH,h];rfl
theorem iy (h:s.data.toList≠ []):s.toList.isEmpty=false:=by
 rw [vH]
 cases hd:s.data.toList with
 | nil=>exact absurd hd h
 | cons a r=>rfl
theorem cw (s:ByteArray):s.data.toList.length=s.size:=zq
def eV (ad:Nat->Addr) (c:Nat):Value:=if c=0 then .nilIface else .iface 450 (.pointer (some (ad (c - 1))))
structure Op4 (ad:Nat->Addr) (w:World):Prop where
 c1:w.cell? ⟨0,0,none⟩=some (.iface 450 (.pointer (some (ad 1))))
 c2:w.cell? ⟨4,0,none⟩=some (.iface 450 (.pointer (some (ad 2))))
 c3:w.cell? ⟨5,0,none⟩=some (.iface 450 (.pointer (some (ad 3))))
 c4:w.cell? ⟨6,0,none⟩=some (.iface 450 (.pointer (some (ad 4))))
theorem aQ {b o:Nat} {v:Value} (hb:Below w.heap.size w w') (h:w.cell? ⟨b,o,none⟩=some v):w'.cell? ⟨b,o,none⟩=some v:=by
 exact kf6
theorem Op4.later (h:Op4 ad w) (hb:Below w.heap.size w w'):Op4 ad w':=
 ⟨aQ hb h.c1,aQ hb h.c2,aQ hb h.c3,aQ hb h.c4⟩
structure OpAt (w:World) (a:Nat) (t b n:Int) (k:Nat) (node other:Int) (name value:ByteArray):Prop where
 c0:w.cell? ⟨a,0,none⟩=some (.int .i64 t)
 c1:w.cell? ⟨a,1,none⟩=some (.int .i64 b)
 c2:w.cell? ⟨a,2,none⟩=some (.int .i64 n)
 c3:w.cell? ⟨a,3,none⟩=some (.int .u8 (k:Int))
 c4:w.cell? ⟨a,4,none⟩=some (.int .i64 node)
 c5:w.cell? ⟨a,5,none⟩=some (.int .i64 other)
 c6:w.cell? ⟨a,6,none⟩=some (.string name)
 c7:w.cell? ⟨a,7,none⟩=some (.string value)
theorem OpAt.later {a:Nat} {t b n:Int} {k:Nat} {node other:Int} {name value:ByteArray} (h:OpAt w a t b n k node other name value) (hb:Below w.heap.size w w'):OpAt w' a t b n k node other name value:=
 ⟨aQ hb h.c0,aQ hb h.c1,aQ hb h.c2,aQ hb h.c3,aQ hb h.c4,aQ hb h.c5,aQ hb h.c6,aQ hb h.c7⟩
theorem OpAt.new (w:World) (t b n:Int) (k:Nat) (node other:Int) (name value:ByteArray) (T:TypeId):OpAt (w.alloc (.cells #[.int .i64 t,.int .i64 b,.int .i64 n,.int .u8 (k:Int),.int .i64 node,.int .i64 other,.string name,.string value] T)) w.heap.size t b n k node other name value:=by
 constructor<;>simp [go_sem]
theorem JY (id:Int) (t b n:Int) (k:Nat) (node other:Int) (name value:ByteArray) (w:World) (hE:Op4 ad w) (hid:4<=id) (hsn:name.size<=1000000) (_hsv:value.size<=1000000):
  Calls prog 186 #[.agg #[.int .i64 t,.int .i64 b,.int .i64 n,.int .u8 (k:Int),.int .i64 node,.int .i64 other,.string name,.string value],.int .i64 id] w fun e w'=>e= .returned (eV ad (cR id node other name.data.toList value.data.toList))/\Below w.heap.size w w':=by
 have g2:=fun o=>(hE.later ((jN _ _).alloc zg o)).c2
 have g3:=fun o=>(hE.later ((jN _ _).alloc zg o)).c3
 have hz2:4<w.heap.size:=jR w ⟨4,0,none⟩ hE.c2
 have hz3:5<w.heap.size:=jR w ⟨5,0,none⟩ hE.c3
 have hln:=cw name
 have hlv:=cw value
 clear hE
 by_cases hsh:node<2\/id<node\/other<0\/id<=other
 ·rcases (by omega:node=0\/node=1\/node<0\/id<node\/(2<=node/\node<id)\/node=id) with h | h | h | h | ⟨h,h'⟩ | h
  ·have hcode:cR id node other name.data.toList value.data.toList=3:=by unfold cR;rw [if_pos zj]
   rw [hcode]
   have q0:(node==0)=true:=zl
   clear hsh
   clear hcode hln hlv
   go_enter func186,ntmps186
   exact ka2
  ·have hcode:cR id node other name.data.toList value.data.toList=3:=by unfold cR;rw [if_pos zj]
   rw [hcode]
   have q0:(node==0)=false:=zl
   have q1:(node==1)=true:=zl
   clear hsh
   clear hcode hln hlv
   go_enter func186,ntmps186
   exact ka2
  ·have hcode:cR id node other name.data.toList value.data.toList=3:=by unfold cR;rw [if_pos zj]
   rw [hcode]
   have q0:(node==0)=false:=zl
   have q1:(node==1)=false:=zl
   have q2:(node !=id)=true:=zl
   clear hsh
   clear hcode hln hlv
   go_enter func186,ntmps186
   exact ka2
  ·have hcode:cR id node other name.data.toList value.data.toList=3:=by unfold cR;rw [if_pos zj]
   rw [hcode]
   have q0:(node==0)=false:=zl
   have q1:(node==1)=false:=zl
   have q2:(node !=id)=true:=zl
   clear hsh
   clear hcode hln hlv
   go_enter func186,ntmps186
   exact ka2
  ·have hcode:cR id node other name.data.toList value.data.toList=3:=by unfold cR;rw [if_pos zj]
   rw [hcode]
   have q0:(node==0)=false:=zl
   have q1:(node==1)=false:=zl
   have h3:other<0\/id<=other:=zj
   clear hsh
   clear hcode hln hlv
   go_enter func186,ntmps186
   exact ka2
  have hcode:cR id node other name.data.toList value.data.toList=3:=by unfold cR;rw [if_pos zj]
  rw [hcode]
  have q0:(node==0)=false:=zl
  have q1:(node==1)=false:=zl
  have q2:(node !=id)=false:=zl
  have h3:other<0\/id<=other:=zj
  clear hsh
  clear hcode hln hlv
  go_enter func186,ntmps186
  exact ka0
 have o1:0<=other:=zj
 have o2:other<id:=zj
 rcases (by omega:(2<=node/\node<id)\/node=id) with ⟨h,h'⟩ | h
 ·cases hn:cO name.data.toList with
  | false=>
   have hcode:cR id node other name.data.toList value.data.toList=4:=by unfold cR;rw [if_neg hsh,if_pos hn]
   rw [hcode]
   have q0:(node==0)=false:=zl
   have q1:(node==1)=false:=zl
   clear hsh
   clear hcode hln hlv
   go_enter func186,ntmps186
   exact ka0
  | true=>
   by_cases hv:value.data.toList= []
   ·have hcode:cR id node other name.data.toList value.data.toList=0:=by unfold cR;rw [if_neg hsh,if_neg ya,if_neg xY]
    rw [hcode]
    have q0:(node==0)=false:=zl
    have q1:(node==1)=false:=zl
    have e1:=fQ hv
    clear hsh hv
    clear hcode hln hlv
    go_enter func186,ntmps186
    exact ka0
   have hcode:cR id node other name.data.toList value.data.toList=3:=qO
   rw [hcode]
   have q0:(node==0)=false:=zl
   have q1:(node==1)=false:=zl
   have e1:=iy hv
   clear hsh hv
   clear hcode hln hlv
   go_enter func186,ntmps186
   exact ka1
 cases hn:cO name.data.toList with
 | false=>
  have hcode:cR id node other name.data.toList value.data.toList=4:=by unfold cR;rw [if_neg hsh,if_pos hn]
  rw [hcode]
  have q0:(node==0)=false:=zl
  have q1:(node==1)=false:=zl
  have q2:(node !=id)=false:=zl
  clear hsh
  clear hcode hln hlv
  go_enter func186,ntmps186
  exact ka1
 | true=>
  by_cases hv:value.data.toList= []
  ·have hcode:cR id node other name.data.toList value.data.toList=0:=by unfold cR;rw [if_neg hsh,if_neg ya,if_neg xY]
   rw [hcode]
   have q0:(node==0)=false:=zl
   have q1:(node==1)=false:=zl
   have q2:(node !=id)=false:=zl
   have e1:=fQ hv
   clear hsh hv
   clear hcode hln hlv
   go_enter func186,ntmps186
   exact ka1
  have hcode:cR id node other name.data.toList value.data.toList=3:=qO
  rw [hcode]
  have q0:(node==0)=false:=zl
  have q1:(node==1)=false:=zl
  have q2:(node !=id)=false:=zl
  have e1:=iy hv
  clear hsh hv
  clear hcode hln hlv
  go_enter func186,ntmps186
  exact ka1
theorem Br (id:Int) (t b n:Int) (k:Nat) (node other:Int) (name value:ByteArray) (w:World) (hE:Op4 ad w) (_hid:4<=id) (_hsn:name.size<=1000000) (hsv:value.size<=1000000):
  Calls prog 187 #[.agg #[.int .i64 t,.int .i64 b,.int .i64 n,.int .u8 (k:Int),.int .i64 node,.int .i64 other,.string name,.string value],.int .i64 id] w fun e w'=>e= .returned (eV ad (nH id node other name.data.toList value.data.toList))/\Below w.heap.size w w':=by
 have g2:=fun o=>(hE.later ((jN _ _).alloc zg o)).c2
 have g3:=fun o=>(hE.later ((jN _ _).alloc zg o)).c3
 have hz2:4<w.heap.size:=jR w ⟨4,0,none⟩ hE.c2
 have hz3:5<w.heap.size:=jR w ⟨5,0,none⟩ hE.c3
 have hln:=cw name
 have hlv:=cw value
 clear hE
 by_cases hsh:node<0\/id<=node\/other<0\/id<=other
 ·rcases (by omega:(node<0\/id<=node)\/((0<=node/\node<id)/\(other<0\/id<=other))) with h | ⟨⟨h,h'⟩,h3⟩
  ·have hcode:nH id node other name.data.toList value.data.toList=3:=by unfold nH;rw [if_pos zj]
   rw [hcode]
   clear hsh
   clear hcode hln hlv
   go_enter func187,ntmps187
   exact ka2
  have hcode:nH id node other name.data.toList value.data.toList=3:=by unfold nH;rw [if_pos zj]
  rw [hcode]
  clear hsh
  clear hcode hln hlv
  go_enter func187,ntmps187
  exact ka0
 obtain ⟨h1,h2,h3,h4⟩:0<=node/\node<id/\0<=other/\other<id:=zj
 by_cases hn:name.data.toList= []
 ·have e1:=fQ hn
  by_cases hv:value.size=1
  ·have e2:((value.size:Int) !=1)=false:=by simp;omega
   cases hp:mY value.data.toList with
   | false=>
    have hcode:nH id node other name.data.toList value.data.toList=3:=by unfold nH;rw [if_neg hsh,if_neg ya,if_pos (.inr hp)]
    rw [hcode]
    clear hsh hn hv
    clear hcode hln hlv
    go_enter func187,ntmps187
    exact ka0
   | true=>
    have hcode:nH id node other name.data.toList value.data.toList=0:=by unfold nH;rw [if_neg hsh,if_neg ya,if_neg (by rw [hp,hlv];simp;omega)]
    rw [hcode]
    clear hsh hn hv
    clear hcode hln hlv
    go_enter func187,ntmps187
    exact ka0
  have e2:((value.size:Int) !=1)=true:=zl
  have hcode:nH id node other name.data.toList value.data.toList=3:=by unfold nH;rw [if_neg hsh,if_neg ya,if_pos (.inl zj)]
  rw [hcode]
  clear hsh hn hv
  clear hcode hln hlv
  go_enter func187,ntmps187
  exact ka1
 have e1:=iy hn
 have hcode:nH id node other name.data.toList value.data.toList=4:=by unfold nH;rw [if_neg hsh,if_pos hn]
 rw [hcode]
 clear hsh hn
 clear hcode hln hlv
 go_enter func187,ntmps187
 exact ka1
theorem CM (id:Int) (t b n:Int) (k:Nat) (node other:Int) (name value:ByteArray) (w:World) (hE:Op4 ad w) (hid:4<=id) (_hsn:name.size<=1000000) (_hsv:value.size<=1000000):
  Calls prog 188 #[.agg #[.int .i64 t,.int .i64 b,.int .i64 n,.int .u8 (k:Int),.int .i64 node,.int .i64 other,.string name,.string value],.int .i64 id] w fun e w'=>e= .returned (eV ad (oM id node other name.data.toList value.data.toList))/\Below w.heap.size w w':=by
 have g2:=fun o=>(hE.later ((jN _ _).alloc zg o)).c2
 have g3:=fun o=>(hE.later ((jN _ _).alloc zg o)).c3
 have hz2:4<w.heap.size:=jR w ⟨4,0,none⟩ hE.c2
 have hz3:5<w.heap.size:=jR w ⟨5,0,none⟩ hE.c3
 have hln:=cw name
 have hlv:=cw value
 clear hE
 by_cases hsh:node<0\/id<=node\/other<0\/id<=other\/other=0
 ·rcases (by omega:(node<0\/id<=node)\/((0<=node/\node<id)/\(other<0\/id<=other))\/(0<=node/\node<id/\other=0)) with h | ⟨⟨h,h'⟩,h3⟩ | ⟨h,h',h3⟩
  ·have hcode:oM id node other name.data.toList value.data.toList=3:=by unfold oM;rw [if_pos zj]
   rw [hcode]
   clear hsh
   clear hcode hln hlv
   go_enter func188,ntmps188
   exact ka2
  ·have hcode:oM id node other name.data.toList value.data.toList=3:=by unfold oM;rw [if_pos zj]
   rw [hcode]
   clear hsh
   clear hcode hln hlv
   go_enter func188,ntmps188
   exact ka2
  have hcode:oM id node other name.data.toList value.data.toList=3:=by unfold oM;rw [if_pos zj]
  rw [hcode]
  have q0:(other==0)=true:=zl
  clear hsh
  clear hcode hln hlv
  go_enter func188,ntmps188
  exact ka0
 obtain ⟨h1,h2,h3,h4,h5⟩:0<=node/\node<id/\0<=other/\other<id/\other≠0:=zj
 have q0:(other==0)=false:=zl
 by_cases hn:name.data.toList= []
 ·have e1:=fQ hn
  by_cases hv:value.data.toList= []
  ·have e2:=fQ hv
   have hcode:oM id node other name.data.toList value.data.toList=0:=by unfold oM;rw [if_neg hsh,if_neg ya,if_neg xY]
   rw [hcode]
   clear hsh hn hv
   clear hcode hln hlv
   go_enter func188,ntmps188
   exact ka0
  have e2:=iy hv
  have hcode:oM id node other name.data.toList value.data.toList=3:=by unfold oM;rw [if_neg hsh,if_neg ya,if_pos hv]
  rw [hcode]
  clear hsh hn hv
  clear hcode hln hlv
  go_enter func188,ntmps188
  exact ka1
 have e1:=iy hn
 have hcode:oM id node other name.data.toList value.data.toList=4:=by unfold oM;rw [if_neg hsh,if_pos hn]
 rw [hcode]
 clear hsh hn
 clear hcode hln hlv
 go_enter func188,ntmps188
 exact ka1
theorem Ky (id:Int) (t b n:Int) (k:Nat) (node other:Int) (name value:ByteArray) (w:World) (hE:Op4 ad w) (_hid:4<=id) (hsn:name.size<=1000000) (hsv:value.size<=1000000):
  Calls prog 189 #[.agg #[.int .i64 t,.int .i64 b,.int .i64 n,.int .u8 (k:Int),.int .i64 node,.int .i64 other,.string name,.string value],.int .i64 id] w fun e w'=>e= .returned (eV ad (oQ id node other name.data.toList value.data.toList))/\Below w.heap.size w w':=by
 have g2:=fun o=>(hE.later ((jN _ _).alloc zg o)).c2
 have g3:=fun o=>(hE.later ((jN _ _).alloc zg o)).c3
 have hz2:4<w.heap.size:=jR w ⟨4,0,none⟩ hE.c2
 have hz3:5<w.heap.size:=jR w ⟨5,0,none⟩ hE.c3
 have hln:=cw name
 have hlv:=cw value
 clear hE
 by_cases hsh:node<0\/id<=node\/other≠0
 ·rcases (by omega:(node<0\/id<=node)\/(0<=node/\node<id/\other≠0)) with h | ⟨h,h',h3⟩
  ·have hcode:oQ id node other name.data.toList value.data.toList=3:=by unfold oQ;rw [if_pos zj]
   rw [hcode]
   clear hsh
   clear hcode hln hlv
   go_enter func189,ntmps189
   exact ka2
  have hcode:oQ id node other name.data.toList value.data.toList=3:=by unfold oQ;rw [if_pos zj]
  rw [hcode]
  have q0:(other !=0)=true:=zl
  clear hsh
  clear hcode hln hlv
  go_enter func189,ntmps189
  exact ka0
 obtain ⟨h1,h2,h3⟩:0<=node/\node<id/\other=0:=zj
 have q0:(other !=0)=false:=zl
 cases hn:cO name.data.toList with
 | false=>
  have hcode:oQ id node other name.data.toList value.data.toList=4:=by unfold oQ;rw [if_neg hsh,if_pos hn]
  rw [hcode]
  clear hsh
  clear hcode hln hlv
  go_enter func189,ntmps189
  exact ka0
 | true=>
  by_cases hv:12<value.size
  ·have e2:decide (12<(value.size:Int))=true:=by simp;omega
   have hcode:oQ id node other name.data.toList value.data.toList=3:=by unfold oQ;rw [if_neg hsh,if_neg ya,if_pos (.inl zj)]
   rw [hcode]
   clear hsh
   clear hcode hln hlv
   go_enter func189,ntmps189
   exact ka0
  have e2:decide (12<(value.size:Int))=false:=zl
  cases hp:mY value.data.toList with
  | false=>
   have hcode:oQ id node other name.data.toList value.data.toList=3:=by unfold oQ;rw [if_neg hsh,if_neg ya,if_pos (.inr hp)]
   rw [hcode]
   clear hsh
   clear hcode hln hlv
   go_enter func189,ntmps189
   exact ka1
  | true=>
   have hcode:oQ id node other name.data.toList value.data.toList=0:=by unfold oQ;rw [if_neg hsh,if_neg ya,if_neg (by rw [hp,hlv];simp;omega)]
   rw [hcode]
   clear hsh
   clear hcode hln hlv
   go_enter func189,ntmps189
   exact ka1
theorem bX (t b n:Int) (k:Nat) (node other:Int) (name value:ByteArray) (w:World) (hE:Op4 ad w) (hsn:name.size<=1000000) (hsv:value.size<=1000000):
  Calls prog 123 #[.agg #[.int .i64 t,.int .i64 b,.int .i64 n,.int .u8 (k:Int),.int .i64 node,.int .i64 other,.string name,.string value]] w fun e w'=>e= .returned (eV ad (opE t b n k node other name.data.toList value.data.toList))/\Below w.heap.size w w':=by
 have O0:=OpAt.new w t b n k node other name value 61
 have E0:=hE.later ((jN _ _).alloc zg (.cells #[.int .i64 t,.int .i64 b,.int .i64 n,.int .u8 (k:Int),.int .i64 node,.int .i64 other,.string name,.string value] 61))
 have B0:Below w.heap.size w (w.alloc (.cells #[.int .i64 t,.int .i64 b,.int .i64 n,.int .u8 (k:Int),.int .i64 node,.int .i64 other,.string name,.string value] 61)):=zh _ _
 by_cases hst:1<=t/\t<=1073741824/\0<=b/\b<4
 ·obtain ⟨s1,s2,s3,s4⟩:=hst
  by_cases h1:n<1
  ·have hcode:opE t b n k node other name.data.toList value.data.toList=2:=by unfold opE;rw [if_neg zj]
   rw [hcode]
   have d1:decide (n<1)=true:=zl
   exact ka5
  have d1:decide (n<1)=false:=zl
  by_cases h2:400<n
  ·have d2:decide (400<n)=true:=by simp;omega
   have hcode:opE t b n k node other name.data.toList value.data.toList=2:=by unfold opE;rw [if_neg zj]
   rw [hcode]
   exact ka5
  have d2:decide (400<n)=false:=zl
  by_cases hk109:k=109
  ·have r109:((k:Int)==109)=true:=by simp;omega
   have hcode:opE t b n k node other name.data.toList value.data.toList=cR (t*4+b) node other name.data.toList value.data.toList:=by unfold opE;rw [if_pos zj];unfold kB;rw [if_pos hk109]
   rw [hcode]
   clear hk109
   clear hcode
   go_enter func123,ntmps123
   go_wp2_with fail
   generalize w.alloc (.cells #[.int .i64 t,.int .i64 b,.int .i64 n,.int .u8 (k:Int),.int .i64 node,.int .i64 other,.string name,.string value] 61)=u at O0 E0 B0 |-
   refine (CN _ _ _ s1 s2 s3 s4).mono ?_
   rintro e w1 ⟨rfl,hb⟩
   have O1:=O0.later hb
   have E1:=E0.later hb
   have B1:Below w.heap.size w w1:=zi B0 hb
   clear hb O0 E0 B0
   have z1:=jR w1 ⟨w.heap.size,0,none⟩ O1.c0
   obtain ⟨x0,x1,x2,x3,x4,x5,x6,x7⟩:=O1
   obtain ⟨y1,y2,y3,y4⟩:=id E1
   go_wp2_with fail
   refine (JY (t*4+b) t b n k node other name value w1 E1 zj hsn hsv).mono ?_
   exact kc1
  have r109:((k:Int)==109)=false:=zl
  by_cases hk105:k=105
  ·have r105:((k:Int)==105)=true:=by simp;omega
   have hcode:opE t b n k node other name.data.toList value.data.toList=nH (t*4+b) node other name.data.toList value.data.toList:=by unfold opE;rw [if_pos zj];unfold kB;rw [if_neg hk109];rw [if_pos hk105]
   rw [hcode]
   clear hk109 hk105
   clear hcode
   go_enter func123,ntmps123
   go_wp2_with fail
   generalize w.alloc (.cells #[.int .i64 t,.int .i64 b,.int .i64 n,.int .u8 (k:Int),.int .i64 node,.int .i64 other,.string name,.string value] 61)=u at O0 E0 B0 |-
   refine (CN _ _ _ s1 s2 s3 s4).mono ?_
   rintro e w1 ⟨rfl,hb⟩
   have O1:=O0.later hb
   have E1:=E0.later hb
   have B1:Below w.heap.size w w1:=zi B0 hb
   clear hb O0 E0 B0
   have z1:=jR w1 ⟨w.heap.size,0,none⟩ O1.c0
   obtain ⟨x0,x1,x2,x3,x4,x5,x6,x7⟩:=O1
   obtain ⟨y1,y2,y3,y4⟩:=id E1
   go_wp2_with fail
   refine (Br (t*4+b) t b n k node other name value w1 E1 zj hsn hsv).mono ?_
   exact kc1
  have r105:((k:Int)==105)=false:=zl
  by_cases hk100:k=100
  ·have r100:((k:Int)==100)=true:=by simp;omega
   have hcode:opE t b n k node other name.data.toList value.data.toList=oM (t*4+b) node other name.data.toList value.data.toList:=by unfold opE;rw [if_pos zj];unfold kB;rw [if_neg hk109];rw [if_neg hk105];rw [if_pos hk100]
   rw [hcode]
   clear hk109 hk105 hk100
   clear hcode
   go_enter func123,ntmps123
   go_wp2_with fail
   generalize w.alloc (.cells #[.int .i64 t,.int .i64 b,.int .i64 n,.int .u8 (k:Int),.int .i64 node,.int .i64 other,.string name,.string value] 61)=u at O0 E0 B0 |-
   refine (CN _ _ _ s1 s2 s3 s4).mono ?_
   rintro e w1 ⟨rfl,hb⟩
   have O1:=O0.later hb
   have E1:=E0.later hb
   have B1:Below w.heap.size w w1:=zi B0 hb
   clear hb O0 E0 B0
   have z1:=jR w1 ⟨w.heap.size,0,none⟩ O1.c0
   obtain ⟨x0,x1,x2,x3,x4,x5,x6,x7⟩:=O1
   obtain ⟨y1,y2,y3,y4⟩:=id E1
   go_wp2_with fail
   refine (CM (t*4+b) t b n k node other name value w1 E1 zj hsn hsv).mono ?_
   exact kc1
  have r100:((k:Int)==100)=false:=zl
  by_cases hk115:k=115
  ·have r115:((k:Int)==115)=true:=by simp;omega
   have hcode:opE t b n k node other name.data.toList value.data.toList=oQ (t*4+b) node other name.data.toList value.data.toList:=by unfold opE;rw [if_pos zj];unfold kB;rw [if_neg hk109];rw [if_neg hk105];rw [if_neg hk100];rw [if_pos hk115]
   rw [hcode]
   clear hk109 hk105 hk100 hk115
   clear hcode
   go_enter func123,ntmps123
   go_wp2_with fail
   generalize w.alloc (.cells #[.int .i64 t,.int .i64 b,.int .i64 n,.int .u8 (k:Int),.int .i64 node,.int .i64 other,.string name,.string value] 61)=u at O0 E0 B0 |-
   refine (CN _ _ _ s1 s2 s3 s4).mono ?_
   rintro e w1 ⟨rfl,hb⟩
   have O1:=O0.later hb
   have E1:=E0.later hb
   have B1:Below w.heap.size w w1:=zi B0 hb
   clear hb O0 E0 B0
   have z1:=jR w1 ⟨w.heap.size,0,none⟩ O1.c0
   obtain ⟨x0,x1,x2,x3,x4,x5,x6,x7⟩:=O1
   obtain ⟨y1,y2,y3,y4⟩:=id E1
   go_wp2_with fail
   refine (Ky (t*4+b) t b n k node other name value w1 E1 zj hsn hsv).mono ?_
   exact kc1
  have r115:((k:Int)==115)=false:=zl
  have hcode:opE t b n k node other name.data.toList value.data.toList=5:=by unfold opE;rw [if_pos zj];unfold kB;rw [if_neg hk109];rw [if_neg hk105];rw [if_neg hk100];rw [if_neg hk115]
  rw [hcode]
  clear hk109 hk105 hk100 hk115
  exact ka5
 have hcode:opE t b n k node other name.data.toList value.data.toList=2:=by unfold opE;rw [if_neg zj]
 rw [hcode]
 have HS:=Lib.hid hst
 clear hcode hst
 go_enter func123,ntmps123
 go_wp2_with fail
 generalize w.alloc (.cells #[.int .i64 t,.int .i64 b,.int .i64 n,.int .u8 (k:Int),.int .i64 node,.int .i64 other,.string name,.string value] 61)=u at O0 E0 B0 |-
 refine (On t b u _ _ E0.c1 (jR u ⟨0,0,none⟩ E0.c1) HS.o).mono ?_
 rintro e w1 ⟨rfl,hb⟩
 have B1:Below w.heap.size w w1:=zi B0 hb
 clear hb O0 E0 B0
 go_wp2
 go_ret
 exact ⟨rfl,B1⟩
end Go.Proofs.YtebpcnkdhgnghaaGreatDoor
end
section
namespace Go.Proofs.YtebpcnkdhgnghaaGreatDoor
open Go.RowKit
variable {B:Nat} {ad:Nat→Addr} {w w':World}
def Cyc (ad:Nat->Addr):Prop:=ad 100=⟨1,0,none⟩
structure EnvE (B:Nat) (ad:Nat->Addr) (w:World):Prop where
 op4:Op4 ad w
 c5:w.cell? ⟨1,0,none⟩=some (.iface 450 (.pointer (some (ad 5))))
 c6:w.cell? ⟨7,0,none⟩=some (.iface 450 (.pointer (some (ad 6))))
 c7:w.cell? ⟨2,0,none⟩=some (.iface 450 (.pointer (some (ad 7))))
 c8:w.cell? ⟨8,0,none⟩=some (.iface 450 (.pointer (some (ad 8))))
 c9:Cyc ad->w.cell? ⟨9,0,none⟩=some (.iface 450 (.pointer (some (ad 9))))
 low:13<=B
 size:B<=w.heap.size
theorem EnvE.mono (h:EnvE B ad w) (hb:Below B w w'):EnvE B ad w':=by
 have hl:=h.low
 have k:∀g v,g<B->w.cell? ⟨g,0,none⟩=some v->w'.cell? ⟨g,0,none⟩=some v:=fun g v hg e=>(hb.cell (p:=⟨g,0,none⟩) hg).trans e
 exact ⟨⟨k _ _ zj h.op4.c1,k _ _ zj h.op4.c2,k _ _ zj h.op4.c3,k _ _ zj h.op4.c4⟩,k _ _ zj h.c5,k _ _ zj h.c6,k _ _ zj h.c7,k _ _ zj h.c8,fun q=>k _ _ zj (h.c9 q),hl,jM h.size hb.size⟩
theorem EnvE.later (h:EnvE B ad w) (hb:Below w.heap.size w w'):EnvE B ad w':=h.mono (hb.mono h.size)
end Go.Proofs.YtebpcnkdhgnghaaGreatDoor
end
section
namespace Go.Proofs.YtebpcnkdhgnghaaGreatDoor
open Go.RowKit
end Go.Proofs.YtebpcnkdhgnghaaGreatDoor
namespace Go.Proofs.YtebpcnkdhgnghaaGreatDoor
open Go.RowKit
end Go.Proofs.YtebpcnkdhgnghaaGreatDoor
namespace Go.Proofs.YtebpcnkdhgnghaaGreatDoor
open Go.RowKit
end Go.Proofs.YtebpcnkdhgnghaaGreatDoor
end
section
namespace Go.Proofs.YtebpcnkdhgnghaaGreatDoor
open Go
section
variable {α:Type} {enc:α→List Value} {k:Nat}
def aB (enc:α->List Value) (L:List α):List Value:=L.flatMap enc
theorem fF (x:α) (L:List α):aB enc (x::L)=enc x++aB enc L:=rfl
theorem bu (L M:List α):aB enc (L++M)=aB enc L++aB enc M:=by simp [aB]
theorem aa (hk:∀x,(enc x).length=k):∀L:List α,(aB enc L).length=L.length*k
 | []=>by simp [aB]
 | x::L=>by rw [fF,jP,hk,aa hk L,jY,Nat.succ_mul];omega
theorem mz (hk:∀x,(enc x).length=k) (L:List α) (i:Nat) (hi:i<=L.length):(aB enc L).take (i*k)=aB enc (L.take i):=by
 conv=>lhs;rw [<-vA i L]
 rw [bu,vv yn,vm yn]
theorem eO (hk:∀x,(enc x).length=k) (L:List α) (i:Nat) (hi:i<=L.length):(aB enc L).drop (i*k)=aB enc (L.drop i):=by
 conv=>lhs;rw [<-vA i L]
 rw [bu,List.drop_append_of_le_length yn,uv yn]
 rfl
theorem bd (hk:∀x,(enc x).length=k) {L:List α} {i c:Nat} {x:α} (hx:L[i]? =some x) (hc:c<k):(aB enc L)[i*k+c]? =(enc x)[c]? :=by
 obtain ⟨hil,hie⟩:=jI.1 hx
 have h1:(aB enc L)[i*k+c]? =((aB enc L).drop (i*k))[c]? :=by rw [vW]
 rw [h1,eO hk L i zj,un hil,hie,fF,uC (by rw [hk];exact hc)]
theorem AM (hk:∀x,(enc x).length=k) (L:List α) (i:Nat) (hi:i<=L.length) (x:α):aB enc (L.take i++x::L.drop i)=(aB enc L).take (i*k)++enc x++(aB enc L).drop (i*k):=by
 rw [bu,fF,mz hk L i hi,eO hk L i hi,vn]
theorem lZ (hk:∀x,(enc x).length=k) (L:List α) (i:Nat) (hi:i<L.length) (x:α):aB enc (L.set i x)=(aB enc L).take (i*k)++enc x++(aB enc L).drop ((i+1)*k):=by
 rw [List.set_eq_take_append_cons_drop,if_pos hi,bu,fF,mz hk L i zj,eO hk L (i+1) zj,vn]
theorem lS (h1:∀x,∀v∈enc x,v.oneCell'=true) (L:List α):∀v∈aB enc L,v.oneCell'=true:=by
 intro v hv
 obtain ⟨x,_,hx⟩:=List.mem_flatMap.1 hv
 exact h1 x v hx
end
theorem pz {w:World} {base k g n cap:Nat} {E:TypeId} {A B C vs:List Value} (h:w.ownsRow base E k (.slice (some ⟨g,0,none⟩) n cap) n (A++B++C)) (hl:B.length=vs.length):
  (w.setCells g A.length vs).ownsRow base E k (.slice (some ⟨g,0,none⟩) n cap) n (A++vs++C):=by
 obtain ⟨hlen,h2⟩:=h
 rcases h2 with ⟨hc,_⟩ | ⟨g',cap',cur,hc,hb,hg,hn,hm,hs,ht⟩
 ·cases hc
 cases hc
 have hlen':(A++vs++C).length=n*k:=by rw [<-hlen];simp [hl]
 refine ⟨hlen',.inr ⟨g,cap,_,rfl,hb,ag g vs A.length w cur E hg,hn,hm,by rw [dG,hs],?_⟩⟩
 have hcur:cur.toList=A++B++(C++cur.toList.drop (n*k)):=by
  conv=>lhs;rw [<-vA (n*k) cur.toList]
  rw [ht];simp
 rw [dC vs A B _ cur hcur hl,<-vn,vv zj,vm zj]
end Go.Proofs.YtebpcnkdhgnghaaGreatDoor
end
section
namespace Go.Proofs.YtebpcnkdhgnghaaGreatDoor
open Go
theorem rB {P:Program} (w:World) (base:Nat) (t ty e:TypeId) (i:TypeInfo) (z:Value) (size bytes:Nat) (ht:P.underlying t=some (.slice e)) (hi:P.info? e=some i) (hz:i.zero=some z)
  (hsize:i.size=size) (hby:i.bytes=bytes) (hzs:z.cells.size=size) (hsz:0<size)
  (v:Value) (n:Nat) (xs:List Value) (hown:w.ownsRow base e size v n xs)
  (a:Addr) (m c:Nat) (hm0:0<m) (news:List Value) (hl:news.length=m*size) (hnews:∀j u,news[j]? =some u->w.cell? (a.add j)=some u) (h1:∀u∈news,u.oneCell'=true)
  (h63:n+m<=maxLen) (hbytes:(n+m)*bytes<=140737488355328) (hbase:base<=w.heap.size):
  ∃v' w',(Builtin.append_ #[t,t] ty #[v,.slice (some a) m c]).run P w= .ok v' w'/\w'.ownsRow base e size v' (n+m) (xs++news)/\w.grownBy w' v.ownBlock/\
   (v'.ownBlock=v.ownBlock\/v'.ownBlock=some w.heap.size):=by
 obtain ⟨v',w',hrun,h',hg',-⟩:=run_append_own (P:=P) w base t ty e i z size bytes ht hi hz hsize hby hzs hsz v n xs hown a m c news hl hnews h1 h63 hbytes hbase
 refine ⟨v',w',hrun,h',hg',?_⟩
 subst hsize
 subst hby
 have hsmall:n+m<=9223372036854775807:=by simp only [maxLen] at h63;omega
 rcases hown.2 with ⟨rfl,rfl⟩ | ⟨g,cap,cur,rfl,hbg,hg,hnc,hcm,hcs,htake⟩
 ·have hr:=run_append_nil (P:=P) w t ty e i z ht hi hz a m c news hl hnews zj zj xc
  exact km4
 by_cases hroom:n+m<=cap
 ·have hfit:n*i.size+news.length<=cur.size:=by rw [hl,hcs,<-uA];exact vK _ hroom
  have hr:=run_append_room (P:=P) w t ty e i ht hi g n cap cur hg a m c news hl hnews h1 hroom hfit
  rw [hr] at hrun
  simp only [Result.ok.injEq] at hrun
  left
  rw [<-hrun.1]
  rfl
 have holds:∀j u,xs[j]? =some u->w.cell? ((⟨g,0,none⟩:Addr).add j)=some u:=hown.cells (g:=g) rfl
 have hr:=run_append_grow (P:=P) w t ty e i z ht hi hz ⟨g,0,none⟩ n cap xs hown.1 holds a m c news hl hnews zj zj (growslice_fits zj hbytes)
 exact km4
