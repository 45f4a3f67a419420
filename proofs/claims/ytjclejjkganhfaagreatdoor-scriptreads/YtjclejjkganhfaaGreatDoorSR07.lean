import Derived.Test.YtjclejjkganhfaaGreatDoorSR02
import Derived.Test.YtjclejjkganhfaaGreatDoorSR03
import Derived.Test.YtjclejjkganhfaaGreatDoorSR04
import Derived.Shelf.SlSortCmp.WholeK
import Derived.Shelf.SlSortCmp.NoneTotal
set_option linter.unusedSimpArgs false
set_option linter.unusedVariables false
set_option maxRecDepth 100000
set_option maxHeartbeats 64000000
namespace Go.Proofs.YtjclejjkganhfaaGreatDoor
open Go.Proofs.Tryz
section
open RowKit
theorem Hw(s)(b)(w)(hs:s.size<=1000000)(h:nY s.data.toList=b):
  qC 206 #[.string s] w fun e w'=>e= .returned (.bool b)/\w'=w:=by rw [<-h];exact Ju s w hs
theorem Hi(s)(b)(w)(hs:s.size<=1000000)(h:CH s.data.toList=b):
  qC 326 #[.string s] w fun e w'=>e= .returned (.bool b)/\w'=w:=by rw [<-h];exact Uu s w hs
theorem rr{s:qY}(h:s.data.toList= []):s.toList.isEmpty=true:=by rw [Zu,h];rfl
theorem sJ{s:qY}(h:s.data.toList≠ []):s.toList.isEmpty=false:=by
 grind [Zu,hd]
theorem ot(s:qY):s.data.toList.length=s.size:=zr
def eV(ad:qF)(c:Nat):Value:=if c=0 then .nilIface else .iface 437 (.pointer (some (ad (c - 1))))
structure U7 (ad:qF) (w:qW):Prop where
 c1:w.cell? (qB 0)=some (.iface 437 (.pointer (some (ad 1))))
 c2:w.cell? (qB 2)=some (.iface 437 (.pointer (some (ad 2))))
 c3:w.cell? (qB 3)=some (.iface 437 (.pointer (some (ad 3))))
 c4:w.cell? (qB 4)=some (.iface 437 (.pointer (some (ad 4))))
theorem lU{w w'}{b o}{v}(hb:qL w w')(h:w.cell? (qA b o)=some v):w'.cell? (qA b o)=some v:=by
 exact kg7
theorem U7.later{ad}{w w'}(h:U7 ad w)(hb:qL w w'):U7 ad w':=
 ⟨lU hb h.c1,lU hb h.c2,lU hb h.c3,lU hb h.c4⟩
structure Q4 (w:qW) (a:Nat) (t b n:Int) (k:Nat) (l8 other:Int) (name value:qY):Prop where
 c0:w.cell? (qB a)=some (qI t)
 c1:w.cell? (qA a 1)=some (qI b)
 c2:w.cell? (qA a 2)=some (qI n)
 c3:w.cell? (qA a 3)=some (.int .u8 (k:Int))
 c4:w.cell? (qA a 4)=some (qI l8)
 c5:w.cell? (qA a 5)=some (qI other)
 c6:w.cell? (qA a 6)=some (.string name)
 c7:w.cell? (qA a 7)=some (.string value)
theorem Q4.later{w w'}{a}{t b n}{k}{l8 other}{name value}(h:Q4 w a t b n k l8 other name value)(hb:qL w w'):Q4 w' a t b n k l8 other name value:=
 ⟨lU hb h.c0,lU hb h.c1,lU hb h.c2,lU hb h.c3,lU hb h.c4,lU hb h.c5,lU hb h.c6,lU hb h.c7⟩
theorem Q4.F5(w:qW)(t b n)(k:Nat)(l8 other)(name value)(T):Q4 (w.alloc (.cells (qOa t b n k l8 other name value) T)) w.heap.size t b n k l8 other name value:=by
 constructor<;>simp [go_sem]
theorem Sr{ad}(id)(t b n)(k:Nat)(l8 other)(name value)(w)(hE:U7 ad w)(hid:4<=id)(bO:name.size<=1000000)(_hsv:value.size<=1000000):
  qC 264 #[.agg (qOa t b n k l8 other name value),qI id] w (qR (eV ad (nw id l8 other name.data.toList value.data.toList)) w):=by
 have g2:=fun o=>(hE.later ((uM _ _).alloc zg o)).c2
 have g3:=fun o=>(hE.later ((uM _ _).alloc zg o)).c3
 by_cases cl:l8<2\/id<l8\/other<0\/id<=other
 ·rcases (by omega:l8=0\/l8=1\/l8<0\/id<l8\/(2<=l8/\l8<id)\/l8=id) with h | h | h | h | ⟨h,h'⟩ | h
  ·have af:nw id l8 other name.data.toList value.data.toList=3:=by unfold nw;rw [if_pos zj]
   rw [af];have q0:(l8==0)=true:=zm;go_enter func264,ntmps264;exact ka2
  ·have af:nw id l8 other name.data.toList value.data.toList=3:=by unfold nw;rw [if_pos zj]
   rw [af];have q0:(l8==0)=false:=zm;have q1:(l8==1)=true:=zm;go_enter func264,ntmps264;exact ka2
  ·have af:nw id l8 other name.data.toList value.data.toList=3:=by unfold nw;rw [if_pos zj]
   rw [af];have q0:(l8==0)=false:=zm;have q1:(l8==1)=false:=zm;have q2:(l8 !=id)=true:=zm;go_enter func264,ntmps264;exact ka2
  ·have af:nw id l8 other name.data.toList value.data.toList=3:=by unfold nw;rw [if_pos zj]
   rw [af];have q0:(l8==0)=false:=zm;have q1:(l8==1)=false:=zm;have q2:(l8 !=id)=true:=zm;go_enter func264,ntmps264;exact ka2
  ·have af:nw id l8 other name.data.toList value.data.toList=3:=by unfold nw;rw [if_pos zj]
   rw [af];have q0:(l8==0)=false:=zm;have q1:(l8==1)=false:=zm;have h3:other<0\/id<=other:=zj;go_enter func264,ntmps264;exact ka2
  have af:nw id l8 other name.data.toList value.data.toList=3:=by unfold nw;rw [if_pos zj]
  rw [af];have q0:(l8==0)=false:=zm;have q1:(l8==1)=false:=zm;have q2:(l8 !=id)=false:=zm;have h3:other<0\/id<=other:=zj;go_enter func264,ntmps264;exact ka0
 have o1:0<=other:=zj;have o2:other<id:=zj
 rcases (by omega:(2<=l8/\l8<id)\/l8=id) with ⟨h,h'⟩ | h
 ·cases hn:nY name.data.toList with
  | false=>
   have af:nw id l8 other name.data.toList value.data.toList=4:=by unfold nw;rw [if_neg cl,if_pos hn]
   rw [af];have q0:(l8==0)=false:=zm;have q1:(l8==1)=false:=zm;go_enter func264,ntmps264;exact ka0
  | true=>
   by_cases hv:value.data.toList= []
   ·have af:nw id l8 other name.data.toList value.data.toList=0:=by unfold nw;rw [if_neg cl,if_neg yo,if_neg (by rw [hv];simp)]
    rw [af];have q0:(l8==0)=false:=zm;have q1:(l8==1)=false:=zm;have e1:=rr hv;go_enter func264,ntmps264;exact ka0
   have af:nw id l8 other name.data.toList value.data.toList=3:=xI;rw [af];have q0:(l8==0)=false:=zm;have q1:(l8==1)=false:=zm;have e1:=sJ hv;go_enter func264,ntmps264;exact ka1
 cases hn:nY name.data.toList with
 | false=>
  have af:nw id l8 other name.data.toList value.data.toList=4:=by unfold nw;rw [if_neg cl,if_pos hn]
  rw [af];have q0:(l8==0)=false:=zm;have q1:(l8==1)=false:=zm;have q2:(l8 !=id)=false:=zm;go_enter func264,ntmps264;exact ka1
 | true=>
  by_cases hv:value.data.toList= []
  ·have af:nw id l8 other name.data.toList value.data.toList=0:=by unfold nw;rw [if_neg cl,if_neg yo,if_neg (by rw [hv];simp)]
   rw [af];have q0:(l8==0)=false:=zm;have q1:(l8==1)=false:=zm;have q2:(l8 !=id)=false:=zm;have e1:=rr hv;go_enter func264,ntmps264;exact ka1
  have af:nw id l8 other name.data.toList value.data.toList=3:=xI;rw [af];have q0:(l8==0)=false:=zm;have q1:(l8==1)=false:=zm;have q2:(l8 !=id)=false:=zm;have e1:=sJ hv;go_enter func264,ntmps264;exact ka1
theorem LH{ad}(id)(t b n)(k:Nat)(l8 other)(name value)(w)(hE:U7 ad w)(_hid:4<=id)(_hsn:name.size<=1000000)(dI:value.size<=1000000):
  qC 265 #[.agg (qOa t b n k l8 other name value),qI id] w (qR (eV ad (DG id l8 other name.data.toList value.data.toList)) w):=by
 have g2:=fun o=>(hE.later ((uM _ _).alloc zg o)).c2
 have g3:=fun o=>(hE.later ((uM _ _).alloc zg o)).c3
 have ir:=ot value;by_cases cl:l8<0\/id<=l8\/other<0\/id<=other
 ·rcases (by omega:(l8<0\/id<=l8)\/((0<=l8/\l8<id)/\(other<0\/id<=other))) with h | ⟨⟨h,h'⟩,h3⟩
  ·have af:DG id l8 other name.data.toList value.data.toList=3:=by unfold DG;rw [if_pos zj]
   rw [af];go_enter func265,ntmps265;exact ka2
  have af:DG id l8 other name.data.toList value.data.toList=3:=by unfold DG;rw [if_pos zj]
  rw [af];go_enter func265,ntmps265;exact ka0
 obtain ⟨h1,h2,h3,h4⟩:0<=l8/\l8<id/\0<=other/\other<id:=zj;by_cases hn:name.data.toList= []
 ·have e1:=rr hn;by_cases hv:value.size=1
  ·have e2:((value.size:Int) !=1)=false:=by simp;omega
   cases hp:CH value.data.toList with
   | false=>
    have af:DG id l8 other name.data.toList value.data.toList=3:=by unfold DG;rw [if_neg cl,if_neg yo,if_pos (.inr hp)]
    rw [af];go_enter func265,ntmps265;exact ka0
   | true=>
    have af:DG id l8 other name.data.toList value.data.toList=0:=by unfold DG;rw [if_neg cl,if_neg yo,if_neg (by rw [hp,ir];simp;omega)]
    rw [af];go_enter func265,ntmps265;exact ka0
  have e2:((value.size:Int) !=1)=true:=zm
  have af:DG id l8 other name.data.toList value.data.toList=3:=by unfold DG;rw [if_neg cl,if_neg yo,if_pos (.inl zj)]
  rw [af];go_enter func265,ntmps265;exact ka1
 have e1:=sJ hn
 have af:DG id l8 other name.data.toList value.data.toList=4:=by unfold DG;rw [if_neg cl,if_pos hn]
 rw [af];go_enter func265,ntmps265;exact ka1
theorem Ly{ad}(id)(t b n)(k:Nat)(l8 other)(name value)(w)(hE:U7 ad w)(hid:4<=id)(_hsn:name.size<=1000000)(_hsv:value.size<=1000000):
  qC 266 #[.agg (qOa t b n k l8 other name value),qI id] w (qR (eV ad (EC id l8 other name.data.toList value.data.toList)) w):=by
 have g2:=fun o=>(hE.later ((uM _ _).alloc zg o)).c2
 have g3:=fun o=>(hE.later ((uM _ _).alloc zg o)).c3
 by_cases cl:l8<0\/id<=l8\/other<0\/id<=other\/other=0
 ·rcases (by omega:(l8<0\/id<=l8)\/((0<=l8/\l8<id)/\(other<0\/id<=other))\/(0<=l8/\l8<id/\other=0)) with h | ⟨⟨h,h'⟩,h3⟩ | ⟨h,h',h3⟩
  ·have af:EC id l8 other name.data.toList value.data.toList=3:=by unfold EC;rw [if_pos zj]
   rw [af];go_enter func266,ntmps266;exact ka2
  ·have af:EC id l8 other name.data.toList value.data.toList=3:=by unfold EC;rw [if_pos zj]
   rw [af];go_enter func266,ntmps266;exact ka2
  have af:EC id l8 other name.data.toList value.data.toList=3:=by unfold EC;rw [if_pos zj]
  rw [af];have q0:(other==0)=true:=zm;go_enter func266,ntmps266;exact ka0
 obtain ⟨h1,h2,h3,h4,h5⟩:0<=l8/\l8<id/\0<=other/\other<id/\other≠0:=zj;have q0:(other==0)=false:=zm;by_cases hn:name.data.toList= []
 ·have e1:=rr hn;by_cases hv:value.data.toList= []
  ·have e2:=rr hv
   have af:EC id l8 other name.data.toList value.data.toList=0:=by unfold EC;rw [if_neg cl,if_neg yo,if_neg (by rw [hv];simp)]
   rw [af];go_enter func266,ntmps266;exact ka0
  have e2:=sJ hv
  have af:EC id l8 other name.data.toList value.data.toList=3:=by unfold EC;rw [if_neg cl,if_neg yo,if_pos hv]
  rw [af];go_enter func266,ntmps266;exact ka1
 have e1:=sJ hn
 have af:EC id l8 other name.data.toList value.data.toList=4:=by unfold EC;rw [if_neg cl,if_pos hn]
 rw [af];go_enter func266,ntmps266;exact ka1
theorem zae{ad}(id)(t b n)(k:Nat)(l8 other)(name value)(w)(hE:U7 ad w)(_hid:4<=id)(bO:name.size<=1000000)(dI:value.size<=1000000):
  qC 267 #[.agg (qOa t b n k l8 other name value),qI id] w (qR (eV ad (FV id l8 other name.data.toList value.data.toList)) w):=by
 have g2:=fun o=>(hE.later ((uM _ _).alloc zg o)).c2
 have g3:=fun o=>(hE.later ((uM _ _).alloc zg o)).c3
 have ir:=ot value;by_cases cl:l8<0\/id<=l8\/other≠0
 ·rcases (by omega:(l8<0\/id<=l8)\/(0<=l8/\l8<id/\other≠0)) with h | ⟨h,h',h3⟩
  ·have af:FV id l8 other name.data.toList value.data.toList=3:=by unfold FV;rw [if_pos zj]
   rw [af];go_enter func267,ntmps267;exact ka2
  have af:FV id l8 other name.data.toList value.data.toList=3:=by unfold FV;rw [if_pos zj]
  rw [af];have q0:(other !=0)=true:=zm;go_enter func267,ntmps267;exact ka0
 obtain ⟨h1,h2,h3⟩:0<=l8/\l8<id/\other=0:=zj;have q0:(other !=0)=false:=zm
 cases hn:nY name.data.toList with
 | false=>
  have af:FV id l8 other name.data.toList value.data.toList=4:=by unfold FV;rw [if_neg cl,if_pos hn]
  rw [af];go_enter func267,ntmps267;exact ka0
 | true=>
  by_cases hv:12<value.size
  ·have e2:decide (12<(value.size:Int))=true:=by simp;omega
   have af:FV id l8 other name.data.toList value.data.toList=3:=by unfold FV;rw [if_neg cl,if_neg yo,if_pos (.inl zj)]
   rw [af];go_enter func267,ntmps267;exact ka0
  have e2:decide (12<(value.size:Int))=false:=zm
  cases hp:CH value.data.toList with
  | false=>
   have af:FV id l8 other name.data.toList value.data.toList=3:=by unfold FV;rw [if_neg cl,if_neg yo,if_pos (.inr hp)]
   rw [af];go_enter func267,ntmps267;exact ka1
  | true=>
   have af:FV id l8 other name.data.toList value.data.toList=0:=by unfold FV;rw [if_neg cl,if_neg yo,if_neg (by rw [hp,ir];simp;omega)]
   rw [af];go_enter func267,ntmps267;exact ka1
theorem mr{ad}(t b n)(k:Nat)(l8 other)(name value)(w)(hE:U7 ad w)(bO:name.size<=1000000)(dI:value.size<=1000000):
  qC 213 #[.agg (qOa t b n k l8 other name value)] w (qR (eV ad (opE t b n k l8 other name.data.toList value.data.toList)) w):=by
 have O0:=Q4.F5 w t b n k l8 other name value 88;have E0:=hE.later ((uM _ _).alloc zg (qOc t b n k l8 other name value));have B0:qL w (w.alloc (qOc t b n k l8 other name value)):=zh _ _;by_cases hst:1<=t/\t<=1073741824/\0<=b/\b<4
 ·obtain ⟨s1,s2,s3,s4⟩:=hst;by_cases h1:n<1
  ·have af:opE t b n k l8 other name.data.toList value.data.toList=2:=by unfold opE;rw [if_neg zj]
   rw [af];have d1:decide (n<1)=true:=zm;exact ka9
  have d1:decide (n<1)=false:=zm;by_cases h2:400<n
  ·have d2:decide (400<n)=true:=by simp;omega
   have af:opE t b n k l8 other name.data.toList value.data.toList=2:=by unfold opE;rw [if_neg zj]
   rw [af];exact ka9
  have d2:decide (400<n)=false:=zm;by_cases bl:k=109
  ·have r109:((k:Int)==109)=true:=by simp;omega
   have af:opE t b n k l8 other name.data.toList value.data.toList=nw (t*4+b) l8 other name.data.toList value.data.toList:=by unfold opE;rw [if_pos zj];unfold wd;rw [if_pos bl]
   rw [af];clear bl;clear af;go_enter func213,ntmps213;go_wp2_with fail
   generalize w.alloc (qOc t b n k l8 other name value)=u at O0 E0 B0 |-
   refine (MZ _ _ _ s1 s2 s3 s4).mono ?_;rintro e w1 ⟨rfl,hb⟩;have O1:=O0.later hb;have E1:=E0.later hb;have B1:=zi B0 hb;clear hb O0 E0 B0;have z1:=uN w1 (qB w.heap.size) O1.c0;obtain ⟨x0,x1,x2,x3,x4,x5,x6,x7⟩:=O1;obtain ⟨y1,y2,y3,y4⟩:=id E1;go_wp2_with fail;refine (Sr (t*4+b) t b n k l8 other name value w1 E1 zj bO dI).mono ?_;exact kc4
  have r109:((k:Int)==109)=false:=zm;by_cases cF:k=105
  ·have r105:((k:Int)==105)=true:=by simp;omega
   have af:opE t b n k l8 other name.data.toList value.data.toList=DG (t*4+b) l8 other name.data.toList value.data.toList:=by unfold opE;rw [if_pos zj];unfold wd;rw [if_neg bl];rw [if_pos cF]
   rw [af];clear bl cF;clear af;go_enter func213,ntmps213;go_wp2_with fail
   generalize w.alloc (qOc t b n k l8 other name value)=u at O0 E0 B0 |-
   refine (MZ _ _ _ s1 s2 s3 s4).mono ?_;rintro e w1 ⟨rfl,hb⟩;have O1:=O0.later hb;have E1:=E0.later hb;have B1:=zi B0 hb;clear hb O0 E0 B0;have z1:=uN w1 (qB w.heap.size) O1.c0;obtain ⟨x0,x1,x2,x3,x4,x5,x6,x7⟩:=O1;obtain ⟨y1,y2,y3,y4⟩:=id E1;go_wp2_with fail;refine (LH (t*4+b) t b n k l8 other name value w1 E1 zj bO dI).mono ?_;exact kc4
  have r105:((k:Int)==105)=false:=zm;by_cases dh:k=100
  ·have r100:((k:Int)==100)=true:=by simp;omega
   have af:opE t b n k l8 other name.data.toList value.data.toList=EC (t*4+b) l8 other name.data.toList value.data.toList:=by unfold opE;rw [if_pos zj];unfold wd;rw [if_neg bl];rw [if_neg cF];rw [if_pos dh]
   rw [af];clear bl cF dh;clear af;go_enter func213,ntmps213;go_wp2_with fail
   generalize w.alloc (qOc t b n k l8 other name value)=u at O0 E0 B0 |-
   refine (MZ _ _ _ s1 s2 s3 s4).mono ?_;rintro e w1 ⟨rfl,hb⟩;have O1:=O0.later hb;have E1:=E0.later hb;have B1:=zi B0 hb;clear hb O0 E0 B0;have z1:=uN w1 (qB w.heap.size) O1.c0;obtain ⟨x0,x1,x2,x3,x4,x5,x6,x7⟩:=O1;obtain ⟨y1,y2,y3,y4⟩:=id E1;go_wp2_with fail;refine (Ly (t*4+b) t b n k l8 other name value w1 E1 zj bO dI).mono ?_;exact kc4
  have r100:((k:Int)==100)=false:=zm;by_cases bW:k=115
  ·have r115:((k:Int)==115)=true:=by simp;omega
   have af:opE t b n k l8 other name.data.toList value.data.toList=FV (t*4+b) l8 other name.data.toList value.data.toList:=by unfold opE;rw [if_pos zj];unfold wd;rw [if_neg bl];rw [if_neg cF];rw [if_neg dh];rw [if_pos bW]
   rw [af];clear bl cF dh bW;clear af;go_enter func213,ntmps213;go_wp2_with fail
   generalize w.alloc (qOc t b n k l8 other name value)=u at O0 E0 B0 |-
   refine (MZ _ _ _ s1 s2 s3 s4).mono ?_;rintro e w1 ⟨rfl,hb⟩;have O1:=O0.later hb;have E1:=E0.later hb;have B1:=zi B0 hb;clear hb O0 E0 B0;have z1:=uN w1 (qB w.heap.size) O1.c0;obtain ⟨x0,x1,x2,x3,x4,x5,x6,x7⟩:=O1;obtain ⟨y1,y2,y3,y4⟩:=id E1;go_wp2_with fail;refine (zae (t*4+b) t b n k l8 other name value w1 E1 zj bO dI).mono ?_;exact kc4
  have r115:((k:Int)==115)=false:=zm
  have af:opE t b n k l8 other name.data.toList value.data.toList=5:=by unfold opE;rw [if_pos zj];unfold wd;rw [if_neg bl];rw [if_neg cF];rw [if_neg dh];rw [if_neg bW]
  rw [af];clear bl cF dh bW;exact ka9
 have af:opE t b n k l8 other name.data.toList value.data.toList=2:=by unfold opE;rw [if_neg zj]
 rw [af];have HS:=Lib.hid hst;clear af hst;go_enter func213,ntmps213;go_wp2_with fail
 generalize w.alloc (qOc t b n k l8 other name value)=u at O0 E0 B0 |-
 refine (zcO t b u _ _ E0.c1 (uN u (qB 0) E0.c1) HS.o).mono ?_;rintro e w1 ⟨rfl,hb⟩;have B1:=zi B0 hb;clear hb O0 E0 B0;go_wp2;go_ret;exact ⟨rfl,B1⟩
def Cyc(ad:qF):Prop:=ad 100=(qB 1)
structure E8 (B:Nat) (ad:qF) (w:qW):Prop where
 P7:U7 ad w
 c5:w.cell? (qB 5)=some (.iface 437 (.pointer (some (ad 5))))
 c6:w.cell? (qB 6)=some (.iface 437 (.pointer (some (ad 6))))
 c7:w.cell? (qB 7)=some (.iface 437 (.pointer (some (ad 7))))
 c8:w.cell? (qB 8)=some (.iface 437 (.pointer (some (ad 8))))
 c9:Cyc ad->w.cell? (qB 9)=some (.iface 437 (.pointer (some (ad 9))))
 low:13<=B
 size:B<=w.heap.size
theorem E8.mono{B}{ad}{w w'}(h:E8 B ad w)(hb:Below B w w'):E8 B ad w':=by
 have hl:=h.low
 have k:∀g v,g<B->w.cell? (qB g)=some v->w'.cell? (qB g)=some v:=fun g v hg e=>(hb.cell (p:=(qB g)) hg).trans e
 exact ⟨⟨k _ _ zj h.P7.c1,k _ _ zj h.P7.c2,k _ _ zj h.P7.c3,k _ _ zj h.P7.c4⟩,k _ _ zj h.c5,k _ _ zj h.c6,k _ _ zj h.c7,k _ _ zj h.c8,fun q=>k _ _ zj (h.c9 q),hl,uO h.size hb.size⟩
theorem E8.later{B}{ad}{w w'}(h:E8 B ad w)(hb:qL w w'):E8 B ad w':=h.mono (hb.mono h.size)
structure abx (ad:qF) (w:qW):Prop where
 P7:U7 ad w
 tab:Lib.TabIs prog w "internal/strconv.uint64pow10" .u64 Lib.pow10Tab
theorem abx.later{ad}{w w'}(h:abx ad w)(hb:qL w w'):abx ad w':=⟨h.P7.later hb,Lib.tabBelow_of_tabIs h.tab _ hb⟩
def X2(w0:qW)(t b n:Int)(k:Nat)(l8 other:Int)(name value:qY)(w':qW):Prop:=w'.cell? (qB w0.heap.size)=some (qI t)/\w'.cell? (qA w0.heap.size 1)=some (qI b)/\w'.cell? (qA w0.heap.size 2)=some (qI n)/\w'.cell? (qA w0.heap.size 3)=some (.int .u8 (k:Int))/\w'.cell? (qA w0.heap.size 4)=some (qI l8)/\w'.cell? (qA w0.heap.size 5)=some (qI other)/\w'.cell? (qA w0.heap.size 6)=some (.string name)/\w'.cell? (qA w0.heap.size 7)=some (.string value)/\Lib.TabIs prog w' "internal/strconv.uint64pow10" .u64 Lib.pow10Tab/\qL w0 w'
theorem X2.later{w0 w w'}{t b n}{k}{l8 other}{name value}(h:X2 w0 t b n k l8 other name value w)(hb:qL w w'):X2 w0 t b n k l8 other name value w':=
 ⟨lU hb h.1,lU hb h.2.1,lU hb h.2.2.1,lU hb h.2.2.2.1,lU hb h.2.2.2.2.1,lU hb h.2.2.2.2.2.1,lU hb h.2.2.2.2.2.2.1,lU hb h.2.2.2.2.2.2.2.1,Lib.tabBelow_of_tabIs h.2.2.2.2.2.2.2.2.1 _ hb,zi h.2.2.2.2.2.2.2.2.2 hb⟩
theorem X2.drew{w0 w}{t b n}{k}{l8 other}{name value}(h:X2 w0 t b n k l8 other name value w):X2 w0 t b n k l8 other name value w.drew:=h.later (uM _ _).drew
theorem X2.F5{w0 w}{t b n}{k}{l8 other}{name value}(h:X2 w0 t b n k l8 other name value w)(o):X2 w0 t b n k l8 other name value (w.alloc o):=h.later (zh _ _)
theorem X2.tab{w0 w}{t b n}{k}{l8 other}{name value}(h:X2 w0 t b n k l8 other name value w):Lib.TabIs prog w "internal/strconv.uint64pow10" .u64 Lib.pow10Tab:=h.2.2.2.2.2.2.2.2.1
theorem zc6(y0 y1 y2 y3 y4 y5 y6 y7)(w:qW)(T)
  (hl:y0.size+y1.size+y2.size+y3.size+y4.size+y5.size+y6.size+y7.size<=100000000):
  qC 104 #[qG w.heap.size 8 8,.string ⟨#[124]⟩] (w.alloc (.cells #[.string y0,.string y1,.string y2,.string y3,.string y4,.string y5,.string y6,.string y7] T)) (qR (.string ⟨(pt 124 [y0.data.toList,y1.data.toList,y2.data.toList,y3.data.toList,y4.data.toList,y5.data.toList,y6.data.toList,y7.data.toList]).toArray⟩) (w.alloc (.cells #[.string y0,.string y1,.string y2,.string y3,.string y4,.string y5,.string y6,.string y7] T))):=by
 have hc:∀(j:Nat) x,([y0,y1,y2,y3,y4,y5,y6,y7]:List ByteArray)[j]? =some x->(w.alloc (.cells #[.string y0,.string y1,.string y2,.string y3,.string y4,.string y5,.string y6,.string y7] T)).cell? (qA w.heap.size (0+j))=some (.string x):=by
  intro j x hx;rw [YB _ _ _ _ rfl]
  match j,hx with
  | 0,hx=>simp at hx;subst hx;rfl
  | 1,hx=>simp at hx;subst hx;rfl
  | 2,hx=>simp at hx;subst hx;rfl
  | 3,hx=>simp at hx;subst hx;rfl
  | 4,hx=>simp at hx;subst hx;rfl
  | 5,hx=>simp at hx;subst hx;rfl
  | 6,hx=>simp at hx;subst hx;rfl
  | 7,hx=>simp at hx;subst hx;rfl
  | n+8,hx=>simp at hx
 refine (Tryz.strings_Join w.heap.size 0 8 [y0,y1,y2,y3,y4,y5,y6,y7] ⟨#[124]⟩ _ hc zr zr zr ?_).mono ?_
 ·simp [Lib.join_cons,Lib.joinTail];omega
 rintro e w' ⟨rfl,hb⟩;refine ⟨?_,hb⟩;rw [<-Mx];simp
theorem UC(k:Nat)(w)(hk:k=109\/k=105\/k=100\/k=115):Sem.run prog (convert 5 21 (.int .u8 (k:Int))) w= .ok (.int .i32 (k:Int)) w:=by
 rcases hk with rfl | rfl | rfl | rfl<;>kernel_rfl
theorem Ua(k:Nat)(w)(hk:k=109\/k=105\/k=100\/k=115):Sem.run prog (convert 21 9 (.int .i32 (k:Int))) w= .ok (.string ⟨[UInt8.ofNat k].toArray⟩) w:=by
 rcases hk with rfl | rfl | rfl | rfl<;>kernel_rfl
theorem LZ(l:qU):(⟨l.toArray⟩:qY).size=l.length:=ug
theorem RQ{ad}(t b n)(k)(l8 other)(name value)(w)(hE:abx ad w)(dL:opE t b n k l8 other name.data.toList value.data.toList=0):
  qC 160 #[.agg (qOa t b n k l8 other name value)] w (qR (.tuple #[.string ⟨(ol t b n k l8 other name.data.toList value.data.toList).toArray⟩,.nilIface]) w):=by
 obtain ⟨h1,h2,h3,h4,h5,h6,hk,h7,h8,h9,ki,-,hn,hv⟩:=mT dL;rw [ot] at hn hv;have O0:=Q4.F5 w t b n k l8 other name value 88;have E0:=hE.later ((uM _ _).alloc zg (qOc t b n k l8 other name value));have B0:qL w (w.alloc (qOc t b n k l8 other name value)):=zh _ _
 have q1:=fun w=>UC k w hk
 have q2:=fun w=>Ua k w hk
 have HO:=Lib.hid dL;have HB:Hid ((1<=t/\t<=1073741824)/\(0<=b/\b<4)/\(1<=n/\n<=400)/\(0<=l8/\l8<=4294967299)/\(0<=other/\other<=4294967299)/\name.size<=12/\value.size<=12):=Lib.hid zj;have HL:Hid ((Lib.itoa t).length<=21/\(Lib.itoa b).length<=21/\(Lib.itoa n).length<=21/\(Lib.itoa l8).length<=21/\(Lib.itoa other).length<=21):=Lib.hid ⟨Lib.itoa_length_le _ zj zj,Lib.itoa_length_le _ zj zj,Lib.itoa_length_le _ zj zj,Lib.itoa_length_le _ zj zj,Lib.itoa_length_le _ zj zj⟩;unfold ol;generalize hR:pt 124 [[UInt8.ofNat k],Lib.itoa t,Lib.itoa b,Lib.itoa n,Lib.itoa l8,Lib.itoa other,name.data.toList,Cv value.data.toList]=R;have HR:=Lib.hid hR;go_enter func160,ntmps160;go_wp2_with fail
 generalize w.alloc (qOc t b n k l8 other name value)=u at O0 E0 B0 |-
 refine (mr t b n k l8 other name value u E0.P7 yK yK).mono ?_;rintro e w1 ⟨rfl,hb⟩;rw [HO.o]
 have R1:X2 w t b n k l8 other name value w1:=by
  have O1:=O0.later hb;exact ⟨O1.c0,O1.c1,O1.c2,O1.c3,O1.c4,O1.c5,O1.c6,O1.c7,(E0.later hb).tab,zi B0 hb⟩
 have e0:eV ad 0= .nilIface:=rfl;rw [e0];go_wp2_with fail;obtain ⟨A0,A1,A2,A3,A4,A5,A6,A7,A8,A9⟩:=id R1
 go_region_held3 (fun w'=>w'.cell? (qB w.heap.size)=some (qI t)/\w'.cell? (qA w.heap.size 1)=some (qI b)/\w'.cell? (qA w.heap.size 2)=some (qI n)/\w'.cell? (qA w.heap.size 3)=some (.int .u8 (k:Int))/\w'.cell? (qA w.heap.size 4)=some (qI l8)/\w'.cell? (qA w.heap.size 5)=some (qI other)/\w'.cell? (qA w.heap.size 6)=some (.string name)/\w'.cell? (qA w.heap.size 7)=some (.string value)/\Lib.TabIs prog w' "internal/strconv.uint64pow10" .u64 Lib.pow10Tab/\qL w w')
  (first
   | assumption
   | exact X2.drew ⟨A0,A1,A2,A3,A4,A5,A6,A7,A8,A9⟩
   | exact X2.later yC yC
   | exact X2.F5 yC _)
  (first
   | (go_at_call 54;refine (BO _ yK yK _ (X2.tab yC)).mono ?_;rintro e w' ⟨rfl,hb⟩)
   | (go_at_call 230;refine (Hk _ _ yK).mono ?_;rintro e w' ⟨rfl,hb⟩)
   | (go_at_call 104;refine (zc6 _ _ _ _ _ _ _ _ _ _ (by have hb1:=HB.o;have hl1:=HL.o;have gu:=tL value.data.toList;have fO:=ot value;simp only [LZ,Za,Zq];omega)).mono ?_;rintro e w' ⟨rfl,hb⟩))
 have R2:X2 w t b n k l8 other name value w':=yC;go_wp2;go_ret2;exact ⟨by rw [<-HR.o];rfl,R2.2.2.2.2.2.2.2.2.2⟩
theorem OM{ad}(t b n)(k)(l8 other)(name value)(w)(hE:abx ad w)(bO:name.size<=1000000)(dI:value.size<=1000000)(dL:opE t b n k l8 other name.data.toList value.data.toList≠0):
  qC 160 #[.agg (qOa t b n k l8 other name value)] w (qR (.tuple #[.string ⟨#[]⟩,.iface 437 (.pointer (some (ad (opE t b n k l8 other name.data.toList value.data.toList - 1))))]) w):=by
 have O0:=Q4.F5 w t b n k l8 other name value 88;have E0:=hE.later ((uM _ _).alloc zg (qOc t b n k l8 other name value));have B0:qL w (w.alloc (qOc t b n k l8 other name value)):=zh _ _
 have hc:=fun u hu=>mr (ad:=ad) t b n k l8 other name value u hu bO dI
 generalize opE t b n k l8 other name.data.toList value.data.toList=c at dL hc |-
 have HC:=Lib.hid hc
 have he:eV ad c= .iface 437 (.pointer (some (ad (c - 1)))):=by unfold eV;rw [if_neg dL]
 have HV:=Lib.hid he;go_enter func160,ntmps160;go_wp2_with fail
 generalize w.alloc (qOc t b n k l8 other name value)=u at O0 E0 B0 |-
 refine (HC.o u E0.P7).mono ?_;rintro e w1 ⟨rfl,hb⟩;rw [HV.o];have B1:=zi B0 hb;go_wp2;go_ret2;exact ⟨rfl,B1⟩
theorem rX(s)(n)(w)(h:rP 10 s.data.toList=some n):qC 150 #[.string s,qI 10] w fun e w'=>e=qT #[qN n,.bool true]/\w'=w:=by
 have:=Ci 10 zo s w;rw [h] at this;exact this
theorem rS(s)(w)(h:rP 10 s.data.toList=none):qC 150 #[.string s,qI 10] w fun e w'=>e=qT #[qI 0,.bool false]/\w'=w:=by
 have:=Ci 10 zo s w;rw [h] at this;exact this
theorem Ss(s)(v)(w)(hs:s.size<=1000000)(h:nU s.data.toList=some v):qC 372 #[.string s] w (qR (.tuple #[.string ⟨v.toArray⟩,.bool true]) w):=by
 have:=CL s w hs;rw [h] at this;exact this
theorem SF(s)(w)(hs:s.size<=1000000)(h:nU s.data.toList=none):qC 372 #[.string s] w (qR (.tuple #[.string ⟨#[]⟩,.bool false]) w):=by
 have:=CL s w hs;rw [h] at this;exact this
theorem zbq(c)(x)(q)(h:q∈hd [c] x):q.length<=1\/∃r∈x,q.length<=r.length+1:=by
 cases x with
 | nil=>simp [hd] at h;simp_all
 | cons p ps=>
  grind [hd]
theorem Kv(p)(l q)(h:q∈nF p l):q.length<=l.length:=by
 induction l generalizing q with
 | nil=>simp [nF] at h;subst h;simp
 | cons c r ih=>
  grind [rK,nC,zbq]
theorem Rx(s)(m)(w)(hs:s.size<=1000000)(hm:w.cell? (qB 14)=some (qI m)):
  qC 68 #[.string s,.string ⟨#[124]⟩,qI 9] w fun e w'=>∃(P:List ByteArray) (cap g:Nat),e= .returned (qG g P.length cap)/\w.heap.size<=g/\P.length<=cap/\(∀(j:Nat) p,P[j]? =some p->w'.cell? (qA g j)=some (.string p))/\
   ((nF 124 s.data.toList).length=8->P.map (·.data.toList)=nF 124 s.data.toList)/\((nF 124 s.data.toList).length≠8->P.length≠8)/\qL w w':=by
 refine (Tryz.strings_SplitN s ⟨#[124]⟩ 9 m w zj hm zo zo zo).mono ?_;rintro e w' ⟨rfl,rfl⟩;have hl:s.data.toList.length=s.size:=zr;have hd:(Lib.splitB ⟨#[124]⟩ 0 (min 9 (s.size+1) - 1) s).map (·.data.toList)=Lib.splitK [124] 0 (min 9 (s.size+1) - 1) s.data.toList:=Lib.splitB_data ⟨#[124]⟩ 0 _ s;have hn:=EH 124 s.data.toList (min 9 (s.size+1) - 1);have bD:=DV 124 s.data.toList;rw [hl] at bD
 have hlen:(Lib.splitB ⟨#[124]⟩ 0 (min 9 (s.size+1) - 1) s).length=min (min 9 (s.size+1) - 1+1) (nF 124 s.data.toList).length:=by
  have:=congrArg List.length hd;rw [Zh] at this;rw [this,hn]
 refine ⟨_,_,_,rfl,uL _,by rw [hlen];omega,?_,fun h4=> ?_,fun h4=>by rw [hlen];omega,zh _ _⟩
 ·intro j p hj;have hj2:=(uI.1 hj).1;rw [YB _ _ _ _ rfl];unfold Lib.cellsOf;rw [List.getElem?_toArray,Yh (by simpa using hj2),ZM,hj];rfl
 rw [hd];exact Oj _ _ _ zj
structure Z9 (w0:qW) (w:qW):Prop where
 z:Q4 w w0.heap.size 0 0 0 0 0 0 ⟨#[]⟩ ⟨#[]⟩
 f0:w.frozen? (qB w0.heap.size)=false
 f1:w.frozen? (qA w0.heap.size 1)=false
 f2:w.frozen? (qA w0.heap.size 2)=false
 f3:w.frozen? (qA w0.heap.size 3)=false
 f4:w.frozen? (qA w0.heap.size 4)=false
 f5:w.frozen? (qA w0.heap.size 5)=false
 f6:w.frozen? (qA w0.heap.size 6)=false
 f7:w.frozen? (qA w0.heap.size 7)=false
 b:qL w0 w
theorem nG{w w'}{b o}{v}(hb:qL w w')(hz:b<w.heap.size)(h:w.frozen? (qA b o)=v):w'.frozen? (qA b o)=v:=by
 rw [hb.frozen (p:=(qA b o)) hz];exact h
theorem Z9.lt{w0 w}(h:Z9 w0 w):w0.heap.size<w.heap.size:=uN w (qB w0.heap.size) h.z.c0
theorem Z9.later{w0 w w'}(h:Z9 w0 w)(hb:qL w w'):Z9 w0 w':=
 ⟨h.z.later hb,nG hb h.lt h.f0,nG hb h.lt h.f1,nG hb h.lt h.f2,nG hb h.lt h.f3,nG hb h.lt h.f4,nG hb h.lt h.f5,nG hb h.lt h.f6,nG hb h.lt h.f7,zi h.b hb⟩
theorem Z9.F5(w)(T):Z9 w (w.alloc (.cells qZa T)):=by
 refine ⟨by constructor<;>simp [go_sem],?_,?_,?_,?_,?_,?_,?_,?_,zh _ _⟩<;>simp [go_sem]
def tX(r:Option WC):Value:=match r with
 | none=>.agg qZa
 | some (c,n1,n2,n3,n4,n5,nm,v)=>.agg #[qN n1,qN n2,qN n3,.int .u8 (c.toNat:Int),qN n4,qN n5,.string ⟨nm.toArray⟩,.string ⟨v.toArray⟩]
theorem OZ(s)(w)(hs:s.size<=1000000)(m)(hm:w.cell? (qB 14)=some (qI m))(h8:(nF 124 s.data.toList).length≠8):
  qC 344 #[.string s] w (qR (.tuple #[tX (nN s.data.toList),.bool (nN s.data.toList).isSome]) w):=by
 have R0:=Z9.F5 w 88;have HM:=Lib.hid (lU ((uM w.heap.size w).alloc zg qZc) hm);have H8:=Lib.hid h8;have HE:=Lib.hid (Mo h8)
 generalize nN s.data.toList=R at HE |-
 go_enter func344,ntmps344;go_wp2_with fail;refine (Rx s m _ hs HM.o).mono ?_;rintro e w1 ⟨P,cap,g,rfl,hg,hcap,hc,h4e,h4n,hb⟩;have R1:=R0.later hb;have hne:=h4n H8.o;have d8:((P.length:Int) !=8)=true:=zm;obtain ⟨⟨c0,c1,c2,c3,c4,c5,c6,c7⟩,f0,f1,f2,f3,f4,f5,f6,f7,B1⟩:=R1;go_wp2;refine bodyPost_ret (v:=.tuple #[.agg qZa,.bool false]) yh rfl ⟨by rw [HE.o];rfl,?_⟩;exact kb4
theorem MN(s)(w)(hs:s.size<=1000000)(m)(hm:w.cell? (qB 14)=some (qI m))(l0 l1 l2 l3 l4 l5 l6 l7)(h8:nF 124 s.data.toList= [l0,l1,l2,l3,l4,l5,l6,l7])(h0:l0.length≠1):
  qC 344 #[.string s] w (qR (.tuple #[tX (nN s.data.toList),.bool (nN s.data.toList).isSome]) w):=by
 have R0:=Z9.F5 w 88;have HM:=Lib.hid (lU ((uM w.heap.size w).alloc zg qZc) hm);have HE:=Lib.hid (Ib h8 h0)
 generalize nN s.data.toList=R at HE |-
 have H8:=Lib.hid h8;go_enter func344,ntmps344;go_wp2_with fail;refine (Rx s m _ hs HM.o).mono ?_;rintro e w1 ⟨P,cap,g,rfl,hg,hcap,hc,h4e,h4n,hb⟩;have R1:=R0.later hb;have hP:=h4e (by rw [H8.o];rfl);rw [H8.o] at hP
 obtain ⟨p0,p1,p2,p3,p4,p5,p6,p7,rfl,e0,e1,e2,e3,e4,e5,e6,e7⟩:∃p0 p1 p2 p3 p4 p5 p6 p7,P= [p0,p1,p2,p3,p4,p5,p6,p7]/\p0.data.toList=l0/\p1.data.toList=l1/\p2.data.toList=l2/\p3.data.toList=l3/\p4.data.toList=l4/\p5.data.toList=l5/\p6.data.toList=l6/\p7.data.toList=l7:=by
  have hlen:P.length=8:=vI
  match P,hlen,hP with
  | [a0,a1,a2,a3,a4,a5,a6,a7],_,hP=>simp at hP;exact ⟨a0,a1,a2,a3,a4,a5,a6,a7,rfl,hP⟩
 have cP:p0.size=l0.length:=by rw [<-e0];simp
 have d1:((p0.size:Int) !=1)=true:=zm;obtain ⟨⟨c0,c1,c2,c3,c4,c5,c6,c7⟩,f0,f1,f2,f3,f4,f5,f6,f7,B1⟩:=R1;go_wp2;refine bodyPost_ret (v:=.tuple #[.agg qZa,.bool false]) yh rfl ⟨by rw [HE.o];rfl,?_⟩;exact kb4
end
section
section
open RowKit
end
section
open RowKit
end
section
open RowKit
end
end
section
open RowKit
theorem JX(n:Int)(h:n<0):n.tdiv 4<=0:=by
 grind
theorem Qd(n)(w)(u)(x)(hg:w.cell? (qB 0)=some (.iface u x))(hz:0<w.heap.size)(h:n<0)(h2: -9223372036854775808<=n):
  qC 278 #[qI n] w (qR (.tuple #[.agg #[qI 0,qI 0],.iface u x]) w):=by
 have hq:=JX n h;go_enter func278,ntmps278;go_wp2_with fail;refine (EE _ _ _ (.iface u x) (by rw [Yr _ _ _ yX,Yr _ _ _ hz];exact hg) yX zj).mono ?_;exact kc0
theorem PZ(n)(w)(u)(x)(hg:w.cell? (qB 0)=some (.iface u x))(hz:0<w.heap.size)(h:0<=n)(h2:n<4\/4294967300<=n)(h3:n<=9223372036854775807):
  qC 278 #[qI n] w (qR (.tuple #[.agg #[qI 0,qI 0],.iface u x]) w):=by
 have hq:¬(1<=n / 4/\n / 4<=1073741824/\0<=n % 4/\n % 4<4):=zj;have H:Hid (¬(1<=n / 4/\n / 4<=1073741824/\0<=n % 4/\n % 4<4)):=hq;go_enter func278,ntmps278;go_wp2_with fail;refine (EE _ _ _ (.iface u x) (by rw [Yr _ _ _ yX,Yr _ _ _ hz];exact hg) yX H.o).mono ?_;exact kc0
theorem zci(n)(w)(u)(x)(hg:w.cell? (qB 0)=some (.iface u x))(hz:0<w.heap.size)(h:n<4\/4294967300<=n)(h2: -9223372036854775808<=n)(h3:n<=9223372036854775807):
  qC 278 #[qI n] w (qR (.tuple #[.agg #[qI 0,qI 0],.iface u x]) w):=by
 by_cases hn:n<0
 ·exact Qd n w u x hg hz hn h2
 exact PZ n w u x hg hz zj h h3
end
section
open Shelf RowKit Lib Go.Sort
def zcs(a b:Int):Int:=if a<b then -1 else if b<a then 1 else 0
theorem OF(a)(w):qC 242 #[qI a] w fun e w'=>e= .returned (.bool false)/\w'=w:=by
 go_enter func242,ntmps242;exact ka7
theorem Hg(a b)(w):qC 178 #[qI a,qI b] w fun e w'=>e= .returned (qI (zcs a b))/\w'=w:=by
 unfold zcs;by_cases h1:a<b
 ·have d1:=decide_eq_true h1;rw [if_pos h1];exact ke0
 have d1:=decide_eq_false h1;rw [if_neg h1];by_cases h2:b<a
 ·have d2:=decide_eq_true h2;rw [if_pos h2];exact ke0
 have d2:=decide_eq_false h2;rw [if_neg h2];exact ke0
def Xo(x y:Plc):Int:=zcs x.1 y.1
theorem wB(x y):ltOf Xo x y=decide (x.1<y.1):=by
 unfold ltOf Xo zcs
 grind
theorem SS:SWO (ltOf Xo) where
 irrefl x:=by rw [wB];simp
 trans x y z h1 h2:=by rw [wB] at*;simp at*;omega
 ntrans x y z h1 h2:=by rw [wB] at*;simp at*;omega
theorem SY(x y)(w):qC 177 (#[.agg (lL x).toArray,.agg (lL y).toArray]++ #[]) w fun e w'=>e= .returned (qI (Xo x y))/\∃q os',w'=grow (w.drewN q) os':=by
 have hc:∀w',qC 178 #[qI x.1,qI y.1] w' fun e w''=>e= .returned (qI (Xo x y))/\w''=w':=fun w'=>Hg _ _ _
 unfold lL;go_enter func177,ntmps177;go_wp2_with (go_at_call 178;refine (hc _).mono ?_;rintro e w' ⟨rfl,rfl⟩);exact ki4
theorem Ny(blk off size)(w):CmpLays prog 177 #[] lL 3 Xo blk off size w:=fun _ _ _ _ x y=>SY x y _
theorem Wz:∀args w,(callFunc 177 args).run prog w= .ok (.enter 177 args) w:=enters_of func177 zk rfl
theorem mG(x):(lL x).length=3:=rfl
theorem sF(x):∀v∈lL x,v.oneCell'=true:=by
 intro v hv;simp only [lL,uX,ZP,or_false] at hv
 rcases hv with rfl | rfl | rfl<;>rfl
theorem sU(w)(g n)(d)(os):m7 (fun k=>k=g) w (sortWorldK lL 3 w g 0 n d os):=by
 refine ⟨rfl,rfl,rfl,?_,fun k hk hs=> ?_⟩
 ·exact kk8
 exact kg9
theorem zbT{w}{l9 g cap n}{ps}(h:w.ownsRow l9 212 3 (qG g n cap) n (mP lL ps))(hn:n=ps.length):HoldsK lL 3 w g 0 ps.toArray:=fun j hj=>by
 rw [size_flatK] at hj;simp only [Zl] at hj;have h1:j / 3<ps.length:=zj;have h2:j / 3*3+j % 3=j:=zj;refine ⟨?_,yS⟩;rw [Zc,h.cellAt j zj,get_flatK _ _ _ _ yG];have:=mi (enc:=lL) mG (L:=ps) (i:=j / 3) (c:=j % 3) (x:=ps[j / 3]) (uJ h1) zj
 grind [uJ,mG]
theorem IV{w}{g}{d}(h:HoldsK lL 3 w g 0 d)(j)(u)(hj:(mP lL d.toList)[j]? =some u):w.cell? (qA g j)=some u:=by
 have hl:=(uI.1 hj).1;rw [mu mG,ZK] at hl;have h1:j / 3<d.size:=zj;have h2:j / 3*3+j % 3=j:=zj;have H:=(h j xc).1;rw [Zc,get_flatK _ _ _ _ zj] at H;have:=mi (enc:=lL) mG (L:=d.toList) (i:=j / 3) (c:=j % 3) (x:=d[j / 3]) (by rw [YZ,Yf h1]) zj
 grind
theorem zcf(w)(l9 g cap)(ps)(hown:w.ownsRow l9 212 3 (qG g ps.length cap) ps.length (mP lL ps))(hl:ps.length<=200000):
  qC 191 #[qG g ps.length cap,.func (.func 177) #[] #[]] w fun e w'=>e=qT #[]/\∃qs:List Plc,qs.Perm ps/\qs.Pairwise (fun a b=>¬b.1<a.1)/\(∀j u,(mP lL qs)[j]? =some u->w'.cell? (qA g j)=some u)/\m7 (fun k=>k=g) w w':=by
 have hH:=zbT hown rfl;have hblk:=(hown.lt g rfl).2;have h:=AnyQ.slices_SortFunc EW 3 isAgg212 sizeOf212 lL mG sF Xo SS 177 #[] g 0 cap ps.toArray w Wz (Ny g 0 ps.toArray.size w) hH hblk zm;refine Calls.mono h ?_;rintro e w' ⟨rfl,d',n,os,hp,hs,rfl⟩;simp only [Zl] at hp hs;have hsz:d'.size=ps.length:=qv
 have hperm:d'.toList.Perm ps:=by
  exact kb3
 refine ⟨rfl,d'.toList,hperm,?_,?_,sU w g n d' os⟩
 ·rw [ZN];intro i j hi hj aA;have hi':i<d'.size:=xL;have hj':j<d'.size:=yG;have:=hs i j (uW _) aA zj;rw [wB,getElem!_pos d' i hi',getElem!_pos d' j hj'] at this;exact ko5
 exact kl2
theorem Cx(p)(cap)(fv)(w):qC 191 #[.slice p 0 cap,fv] w fun e w'=>e=qT #[]/\w'=w:=
 AnyF.slices_SortFunc_none EW p cap fv w
end
section
open ChangeShapes WideShapes ChangeAt RowKit Joins
theorem gPow:prog.globalNamed "internal/strconv.uint64pow10" =some 13:=zk
theorem tPow:(prog.globals[13]?).map (·.type)=some 322:=zk
theorem Ut:prog.cellsOf 322=20:=zk
theorem VX:prog.cellsOf 259=1:=zk
theorem zbp{W}(h:Lib.VarReads prog W "internal/strconv.uint64pow10" (Lib.tabData .u64 Lib.pow10Tab)):Lib.TabIs prog W "internal/strconv.uint64pow10" .u64 Lib.pow10Tab:=by
 obtain ⟨g,t,cs,fuel,p,hg,ht,dW,hd⟩:=h;obtain rfl:=Option.some.inj (gPow.symm.trans hg);obtain rfl:=Option.some.inj (tPow.symm.trans ht);unfold Lib.TabIs;rw [dW,<-Lib.cells_of_tab underlying322 underlying259 VX Ut hd]

end