import Derived.Test.YtehighgebbdenaaGreatDoorHeldTk
import Derived.Test.YtehighgebbdenaaGreatDoorRa06
import Derived.Test.YtehighgebbdenaaGreatDoorRa07
import Derived.WalkSmall
set_option maxRecDepth 100000
set_option maxHeartbeats 64000000
namespace Go.Proofs.YtehighgebbdenaaGreatDoor
open Go.Proofs.Tryz
variable {D:DataW Unit} {z:DataW Unit×List MemPlace} {by_ k nd:Int} {S:List OpX} {B b cap i m n:Nat} {x:OpX} {ao:Option Addr} {p q:Plc} {f:Sta} {v:Value} {w w':World}
section
open Go Go.RowKit Go.Lib Go.Sort
theorem Ar {b n:Int} (h:av (S.take i) b n=none) (hx:S[i]? =some x):(byO x=b/\ar x=n->av S b n=some x)/\(¬(byO x=b/\ar x=n)->av (S.take (i+1)) b n=none):=by
 have hi:=(vL.1 hx).1
 have e:S.take (i+1)=S.take i++ [x]:=by
  rw [uK hi,(vL.1 hx).2]
 refine ⟨fun q=> ?_,fun q=> ?_⟩
 ·have e2:S=S.take i++(x::S.drop (i+1)):=by
   conv=>lhs;rw [<-ur i S]
   rw [uQ hi,(vL.1 hx).2]
  rw [e2,ip,h]
  show av (x::S.drop (i+1)) b n=some x
  unfold av;rw [List.find?_cons];have:decide (byO x=b/\ar x=n)=true:=decide_eq_true q;rw [this]
 rw [e,ip,h]
 show av [x] b n=none
 unfold av;rw [List.find?_cons];have:decide (byO x=b/\ar x=n)=false:=decide_eq_false q;rw [this];rfl
theorem DN (w:World) (ao:Option Addr) (cap:Nat) (S:List OpX) (b n:Int) (hin:OpsIn w ao S) (hn:S.length<=1000000):
  Calls prog 56 #[.slice ao S.length cap,.int .i64 b,.int .i64 n] w fun e w'=>e= .returned (.tuple #[aD ((av S b n).getD aV),.bool (av S b n).isSome])/\Aside (Below w.heap.size w w'):=by
 obtain ⟨C,hC⟩:=ze w.heap.size;obtain ⟨U,hU⟩:=ze (w.alloc (.cells #[.int .i64 0,.int .i64 0,.int .i64 0,.int .u8 0,.int .i64 0,.int .i64 0,.string ⟨#[]⟩,.string ⟨#[]⟩] 38));have hbU:Below w.heap.size w U:=yS
 have H0:Aside (OpsIn U ao S/\OpBlk U C aV/\Below w.heap.size w U):=⟨hin.later hbU,by rw [hU.o,hC.o];exact OpBlk.new w aV,hbU⟩
 obtain ⟨K,hK⟩:=ze (av S b n);rw [<-hK.o];clear hin hbU;go_enter func56,ntmps56;go_upto_region 1 with fail;rw [<-hU.o,<-hC.o];go_wp2;go_loopg [8] S.length (fun kx s8 wr=>∃(i:Nat),s8= .int .i64 (i:Int)/\i<=S.length/\S.length - i<=kx/\Aside (wr=U/\av (S.take i) b n=none))
 case atStart=>exact ⟨0,rfl,vV _,vM _,rfl,rfl⟩
 case round=>
  obtain ⟨i,rfl,hi,hix,A⟩:=hrel;obtain ⟨u,hu⟩:=zc wr;subst hu;have HL:Aside (av (S.take i) b n=none):=A.o.2
  have H1:Aside (OpsIn u ao S/\OpBlk u C aV/\Below w.heap.size w u):=by rw [A.o.1];exact H0.o
  have HU:Aside (u=U):=A.o.1;clear A;by_cases hlt:i<S.length
  ·have d1:decide ((i:Int)<(S.length:Int))=true:=by simp;omega
   have d1n:decide (i<S.length)=true:=zr
   obtain ⟨x,hx⟩:∃x,Aside (S[i]? =some x):=⟨S[i],vN hlt⟩
   have HT:=Ar HL.o hx.o;obtain ⟨b1,o1,e1,E1⟩:=H1.o.1.one hx.o;obtain ⟨xt,xb,xn,xk,xd,xo,xs,xv⟩:=x;dsimp only at E1 HT;subst e1;have wi:((i:Int)).toNat=i:=zo;have pi:(0:Int)<=(i:Int):=zo;have bi:(i:Int)<(S.length:Int):=zo;obtain ⟨q0,q1,q2,q3,q4,q5,q6,q7⟩:=E1;obtain ⟨y0,y1,y2,y3,y4,y5,y6,y7,yf⟩:=OpBlk.cells (x:=aV) H1.o.2.1;by_cases hb:xb=b
   ·by_cases hn2:xn=n
    ·have db:(xb==b)=true:=by simp [hb]
     have dn:(xn==n)=true:=by simp [hn2]
     have HK:Aside (K=some (xt,xb,xn,xk,xd,xo,xs,xv)):=by
      show K=_
      rw [hK.o];exact HT.1 ⟨hb,hn2⟩
     clear hb hn2 HT;unfold aV at y0 y1 y2 y3 y4 y5 y6 y7;dsimp only at y0 y1 y2 y3 y4 y5 y6 y7;go_wp2;(try simp only [Exit.inBlock,Exit.then]);refine bodyPost_ret (v:=.tuple #[aD (xt,xb,xn,xk,xd,xo,xs,xv),.bool true]) ?_ rfl ⟨by rw [HK.o];rfl,?_⟩
     ·exact ke5
     exact aQ (b:=C) H1.o.2.2 zZ 0 [.int .i64 xt,.int .i64 xb,.int .i64 xn,.int .u8 (xk:Int),.int .i64 xd,.int .i64 xo,.string xs,.string xv]
    have db:(xb==b)=true:=by simp [hb]
    have dn:(xn==n)=false:=by simp [hn2]
    have HN:Aside (u=U/\av (S.take (i+1)) b n=none):=⟨HU.o,HT.2 (fun q=>hn2 q.2)⟩
    clear hb hn2 HT;go_wp2;go_roundg (S.length - (i+1))
    case measure=>omega
    case rel=>exact ⟨i+1,zD,zo,vM _,HN.o⟩
   have db:(xb==b)=false:=by simp [hb]
   have HN:Aside (u=U/\av (S.take (i+1)) b n=none):=⟨HU.o,HT.2 (fun q=>hb q.1)⟩
   clear hb HT;go_wp2;go_roundg (S.length - (i+1))
   case measure=>omega
   case rel=>exact ⟨i+1,zD,zo,vM _,HN.o⟩
  have d1:decide ((i:Int)<(S.length:Int))=false:=zr;have d1n:decide (i<S.length)=false:=zr
  have HK:Aside (K=none):=by
   show K=none
   rw [hK.o];have:=HL.o;rwa [uc zo] at this
  obtain ⟨y0,y1,y2,y3,y4,y5,y6,y7,yf⟩:=OpBlk.cells (x:=aV) H1.o.2.1;unfold aV at y0 y1 y2 y3 y4 y5 y6 y7;dsimp only at y0 y1 y2 y3 y4 y5 y6 y7;go_wp2;(try simp only [Exit.inBlock,Exit.then]);refine bodyPost_ret (v:=.tuple #[aD aV,.bool false]) ?_ rfl ⟨by rw [HK.o];rfl,?_⟩
  ·exact kc3
  exact aQ (b:=C) H1.o.2.2 zZ 0 [.int .i64 0,.int .i64 0,.int .i64 0,.int .u8 0,.int .i64 0,.int .i64 0,.string ⟨#[]⟩,.string ⟨#[]⟩]
structure MRp (w:World) (m:Nat) (by_:Int) (ao:Option Addr) (cap:Nat) (S:List OpX):Prop where
 cell:w.heap[m]? =some (.cells #[.int .i64 by_,.slice ao S.length cap] 34 (0,0))
 ops:OpsIn w ao S
theorem MRp.lt (h:MRp w m by_ ao cap S):m<w.heap.size:=(vO.1 h.cell).1
theorem MRp.later {w w':World} {m:Nat} {by_:Int} {ao:Option Addr} {cap:Nat} {S:List OpX} (h:MRp w m by_ ao cap S) (hb:Below w.heap.size w w'):MRp w' m by_ ao cap S:=⟨(hb.block m h.lt).trans h.cell,h.ops.later hb⟩
theorem MRp.c (h:MRp w m by_ ao cap S):w.cell? ⟨m,0,none⟩=some (.int .i64 by_)/\w.cell? ⟨m,1,none⟩=some (.slice ao S.length cap)/\∀o,w.frozen? ⟨m,o,none⟩=false:=by
 have hc:=h.cell;refine ⟨?_,?_,fun o=> ?_⟩
 ·simp [World.cell?,hc]
 ·simp [World.cell?,hc]
 simp [World.frozen?,hc]
def bT (S:List OpX) (nd:Int):Bool:=S.any (fun x=>decide (kdO x=109/\aL x=nd/\idO x=nd))
theorem knownB_iff :bT S nd=true↔KnownN S nd:=by
 unfold bT KnownN;simp
theorem lL {p:OpX->Bool} (h:(S.take i).any p=false) (hx:S[i]? =some x):(p x=true->S.any p=true)/\(p x=false->(S.take (i+1)).any p=false):=by
 have hi:=(vL.1 hx).1;refine ⟨fun q=>ZQ.2 ⟨x,vQ hx,q⟩,fun q=> ?_⟩;rw [uK hi,(vL.1 hx).2,List.any_append,h];simp [q]
theorem iE (w:World) (nd:Int) (h:MRp w m by_ ao cap S) (hok:∀x∈S,an x=0) (hn:S.length<=1000000):
  Calls prog 61 #[.pointer (some ⟨m,0,none⟩),.int .i64 nd] w fun e w'=>e= .returned (.bool (bT S nd))/\Aside (Below w.heap.size w w'):=by
 obtain ⟨z,hz⟩:=ze (bT S nd);rw [<-hz.o]
 have H0:Aside (MRp w m by_ ao cap S/\∀x∈S,an x=0):=⟨h,hok⟩
 clear h hok;go_enter func61,ntmps61;go_wp2;go_loopg [5] S.length (fun kx s5 wr=>∃(i:Nat),s5= .int .i64 (i:Int)/\i<=S.length/\S.length - i<=kx/\Aside (Below w.heap.size w wr/\(S.take i).any (fun x=>decide (kdO x=109/\aL x=nd/\idO x=nd))=false))
 case atStart=>exact ⟨0,rfl,vV _,vM _,vP _ w,zv⟩
 case round=>
  obtain ⟨i,rfl,hi,hix,A⟩:=hrel;obtain ⟨c0,c1,cf⟩:=(H0.o.1.later A.o.1).c;by_cases hlt:i<S.length
  ·have d1:decide ((i:Int)<(S.length:Int))=true:=by simp;omega
   have d1n:decide (i<S.length)=true:=zr
   obtain ⟨x,hx⟩:∃x,Aside (S[i]? =some x):=⟨S[i],vN hlt⟩
   have HT:=lL A.o.2 hx.o;have hex:=H0.o.2 x (vQ hx.o);obtain ⟨b1,o1,e1,E1⟩:=(H0.o.1.later A.o.1).ops.one hx.o;obtain ⟨xt,xb,xn,xk,xd,xo,xs,xv⟩:=x;have hst:=aq hex;have hid:=fK xt xb wr hst.1 hst.2.1 hst.2.2.1 hst.2.2.2.1;clear hst;dsimp only at E1 HT;subst e1;have wi:((i:Int)).toNat=i:=zo;have pi:(0:Int)<=(i:Int):=zo;have bi:(i:Int)<(S.length:Int):=zo;obtain ⟨q0,q1,q2,q3,q4,q5,q6,q7⟩:=E1;have HP:Aside (Below w.heap.size w wr):=A.o.1;clear A hex;by_cases hk:xk=109
   ·have dk:((xk:Int)==109)=true:=by simp [hk]
    have dkn:(xk==109)=true:=by simp [hk]
    by_cases hd:xd=nd
    ·have dd:(xd==nd)=true:=by simp [hd]
     go_wp2_with fail;refine hid.mono ?_;clear hid q0 q1 q2 q3 q4 q5 q6 q7;rintro e w1 ⟨rfl,hb1⟩;have HB:Aside (Below w.heap.size w w1):=zj HP.o hb1;clear hb1;by_cases hi2:4*xt+xb=nd
     ·have di:(4*xt+xb==nd)=true:=by simp [hi2]
      exact kg8
     have di:(4*xt+xb==nd)=false:=by simp [hi2]
     have HN:Aside (Below w.heap.size w w1/\(S.take (i+1)).any (fun x=>decide (kdO x=109/\aL x=nd/\idO x=nd))=false):=⟨HB.o,HT.2 (decide_eq_false (fun q=>hi2 xJ))⟩
     clear hk hd hi2 HT;go_wp2;go_roundg (S.length - (i+1))
     case measure=>omega
     case rel=>exact ⟨i+1,zD,zo,vM _,HN.o⟩
    have dd:(xd==nd)=false:=vz
    have HN:Aside (Below w.heap.size w wr/\(S.take (i+1)).any (fun x=>decide (kdO x=109/\aL x=nd/\idO x=nd))=false):=⟨HP.o,HT.2 (decide_eq_false (fun q=>hd q.2.1))⟩
    clear hk hd HT hid;go_wp2;go_roundg (S.length - (i+1))
    case measure=>omega
    case rel=>exact ⟨i+1,zD,zo,vM _,HN.o⟩
   have dk:((xk:Int)==109)=false:=zr
   have dkn:(xk==109)=false:=by simp [hk]
   have HN:Aside (Below w.heap.size w wr/\(S.take (i+1)).any (fun x=>decide (kdO x=109/\aL x=nd/\idO x=nd))=false):=⟨HP.o,HT.2 (decide_eq_false (fun q=>hk q.1))⟩
   clear hk HT hid;go_wp2;go_roundg (S.length - (i+1))
   case measure=>omega
   case rel=>exact ⟨i+1,zD,zo,vM _,HN.o⟩
  exact kf9
def kP (S:List OpX) (nd:Int):Bool:=decide (nd=0) ||(decide (nd=1) ||bT S nd)
theorem ro (w:World) (nd:Int) (h:MRp w m by_ ao cap S) (hok:∀x∈S,an x=0) (hn:S.length<=1000000):
  Calls prog 62 #[.pointer (some ⟨m,0,none⟩),.int .i64 nd] w fun e w'=>e= .returned (.bool (kP S nd))/\Aside (Below w.heap.size w w'):=by
 have hkn:=iE w nd h hok hn;unfold kP;clear h hok;by_cases h0:nd=0
 ·subst h0;go_enter func62,ntmps62;exact kp9
 by_cases h1:nd=1
 ·subst h1;go_enter func62,ntmps62;exact kp9
 have d0:(nd==0)=false:=xK
 have d1:(nd==1)=false:=by simp [h1]
 have e0:decide (nd=0)=false:=decide_eq_false h0;have e1:decide (nd=1)=false:=decide_eq_false h1;rw [e0,e1];obtain ⟨z,hz⟩:=ze (bT S nd)
 rw [<-hz.o] at hkn |-
 have HZ:Aside ((false ||(false ||z))=z):=by show _=z;simp
 rw [HZ.o];clear e0 e1 h0 h1 HZ;go_enter func62,ntmps62;go_wp2_with fail;refine hkn.mono ?_;clear hkn;rintro e w1 ⟨rfl,H1⟩;go_wp2;go_ret;exact ⟨rfl,H1.o⟩
def fJ (S:List OpX) (nd id:Int):Bool:=S.any (fun x=>decide (kdO x=105/\aL x=nd/\idO x=id))
theorem sr {id:Int} :fJ S nd id=true↔LetterN S nd id:=by
 unfold fJ LetterN;simp
theorem Ab (w:World) (nd id:Int) (h:MRp w m by_ ao cap S) (hok:∀x∈S,an x=0) (hn:S.length<=1000000):
  Calls prog 63 #[.pointer (some ⟨m,0,none⟩),.int .i64 nd,.int .i64 id] w fun e w'=>e= .returned (.bool (fJ S nd id))/\Aside (Below w.heap.size w w'):=by
 obtain ⟨z,hz⟩:=ze (fJ S nd id);rw [<-hz.o]
 have H0:Aside (MRp w m by_ ao cap S/\∀x∈S,an x=0):=⟨h,hok⟩
 clear h hok;go_enter func63,ntmps63;go_wp2;go_loopg [7] S.length (fun kx s7 wr=>∃(i:Nat),s7= .int .i64 (i:Int)/\i<=S.length/\S.length - i<=kx/\Aside (Below w.heap.size w wr/\(S.take i).any (fun x=>decide (kdO x=105/\aL x=nd/\idO x=id))=false))
 case atStart=>exact ⟨0,rfl,vV _,vM _,vP _ w,zv⟩
 case round=>
  obtain ⟨i,rfl,hi,hix,A⟩:=hrel;obtain ⟨c0,c1,cf⟩:=(H0.o.1.later A.o.1).c;by_cases hlt:i<S.length
  ·have d1:decide ((i:Int)<(S.length:Int))=true:=by simp;omega
   have d1n:decide (i<S.length)=true:=zr
   obtain ⟨x,hx⟩:∃x,Aside (S[i]? =some x):=⟨S[i],vN hlt⟩
   have HT:=lL A.o.2 hx.o;have hex:=H0.o.2 x (vQ hx.o);obtain ⟨b1,o1,e1,E1⟩:=(H0.o.1.later A.o.1).ops.one hx.o;obtain ⟨xt,xb,xn,xk,xd,xo,xs,xv⟩:=x;have hst:=aq hex;obtain ⟨V,hV⟩:=ze (wr.alloc (.cells #[.int .i64 xt,.int .i64 xb,.int .i64 xn,.int .u8 (xk:Int),.int .i64 xd,.int .i64 xo,.string xs,.string xv] 38));obtain ⟨Q,hQ⟩:=ze wr.heap.size;have hid:=fK xt xb V hst.1 hst.2.1 hst.2.2.1 hst.2.2.2.1;clear hst;dsimp only at E1 HT;subst e1;have wi:((i:Int)).toNat=i:=zo;have pi:(0:Int)<=(i:Int):=zo;have bi:(i:Int)<(S.length:Int):=zo;obtain ⟨q0,q1,q2,q3,q4,q5,q6,q7⟩:=E1
   have HP:Aside (Below w.heap.size w V/\OpBlk V Q (xt,xb,xn,xk,xd,xo,xs,xv)):=⟨by rw [hV.o];exact A.o.1.alloc A.o.1.size _,by rw [hV.o,hQ.o];exact OpBlk.new wr (xt,xb,xn,xk,xd,xo,xs,xv)⟩
   clear A hex;go_upto_region 5 with fail;rw [<-hV.o,<-hQ.o];clear q0 q1 q2 q3 q4 q5 q6 q7;obtain ⟨q0,q1,q2,q3,q4,q5,q6,q7,qf⟩:=HP.o.2.cells;dsimp only at q0 q1 q2 q3 q4 q5 q6 q7;by_cases hk:xk=105
   ·have dk:((xk:Int)==105)=true:=by simp [hk]
    have dkn:(xk==105)=true:=by simp [hk]
    by_cases hd:xd=nd
    ·have dd:(xd==nd)=true:=by simp [hd]
     go_wp2_with fail;refine hid.mono ?_;clear hid q0 q1 q2 q3 q4 q5 q6 q7;rintro e w1 ⟨rfl,hb1⟩;have HB:Aside (Below w.heap.size w w1):=zj HP.o.1 hb1;clear hb1;by_cases hi2:4*xt+xb=id
     ·have di:(4*xt+xb==id)=true:=by simp [hi2]
      exact kg8
     have di:(4*xt+xb==id)=false:=by simp [hi2]
     have HN:Aside (Below w.heap.size w w1/\(S.take (i+1)).any (fun x=>decide (kdO x=105/\aL x=nd/\idO x=id))=false):=⟨HB.o,HT.2 (decide_eq_false (fun q=>hi2 xJ))⟩
     clear hk hd hi2 HT;go_wp2;go_roundg (S.length - (i+1))
     case measure=>omega
     case rel=>exact ⟨i+1,zD,zo,vM _,HN.o⟩
    have dd:(xd==nd)=false:=vz
    have HN:Aside (Below w.heap.size w V/\(S.take (i+1)).any (fun x=>decide (kdO x=105/\aL x=nd/\idO x=id))=false):=⟨HP.o.1,HT.2 (decide_eq_false (fun q=>hd q.2.1))⟩
    clear hk hd HT hid;go_wp2;go_roundg (S.length - (i+1))
    case measure=>omega
    case rel=>exact ⟨i+1,zD,zo,vM _,HN.o⟩
   have dk:((xk:Int)==105)=false:=zr
   have dkn:(xk==105)=false:=by simp [hk]
   have HN:Aside (Below w.heap.size w V/\(S.take (i+1)).any (fun x=>decide (kdO x=105/\aL x=nd/\idO x=id))=false):=⟨HP.o.1,HT.2 (decide_eq_false (fun q=>hk q.1))⟩
   clear hk HT hid;go_wp2;go_roundg (S.length - (i+1))
   case measure=>omega
   case rel=>exact ⟨i+1,zD,zo,vM _,HN.o⟩
  exact kf9
def eu (S:List OpX):Int:=(S.getLast?.map (·.1)).getD 0
theorem oD (w:World) (h:MRp w m by_ ao cap S) (hn:S.length<=1000000):
  Calls prog 21 #[.pointer (some ⟨m,0,none⟩)] w fun e w'=>e= .returned (.int .i64 (eu S))/\Aside (Below w.heap.size w w'):=by
 obtain ⟨c0,c1,cf⟩:=h.c;by_cases h0:S.length=0
 ·have e0:S= []:=uh.1 h0;subst e0;go_enter func21,ntmps21;exact kp9
 obtain ⟨L,hL⟩:∃L:Nat,Aside (L=S.length):=⟨_,rfl⟩
 rw [<-hL.o] at c1 h0 hn
 have d0:((L:Int)==0)=false:=by rw [beq_eq_false_iff_ne];omega
 have d0n:(L==0)=false:=xK
 obtain ⟨k,hk⟩:∃k:Nat,Aside (k=L - 1):=⟨_,rfl⟩
 have e1:(L:Int) - 1=(k:Int):=by have:=hk.o;omega
 have hw1:IntKind.i64.wrap ((L:Int) - 1)=(k:Int):=vh;have hwk:IntKind.i64.wrap (k:Int)=(k:Int):=vh;have wi:((k:Int)).toNat=k:=zo;have pi:(0:Int)<=(k:Int):=zo
 have bi:(k:Int)<(L:Int):=by have:=hk.o;omega
 obtain ⟨x,hx⟩:∃x,Aside (S[k]? =some x):=⟨S[k]'(by have:=hk.o;have:=hL.o;omega),vN _⟩
 obtain ⟨b1,o1,e2,E1⟩:=h.ops.one hx.o
 have HT:Aside (eu S=x.1):=by
  show _=_
  unfold eu;rw [ZZ,<-hL.o,<-hk.o,hx.o];rfl
 rw [HT.o];obtain ⟨xt,xb,xn,xk,xd,xo,xs,xv⟩:=x;dsimp only at E1;subst e2;obtain ⟨q0,q1,q2,q3,q4,q5,q6,q7⟩:=E1;dsimp only;clear h h0 HT
 have N0:w.drew.cell? ⟨m,1,none⟩=some (.slice (some ⟨b1,o1,none⟩) L cap)/\w.drew.cell? ⟨b1,o1+k*8,none⟩=some (.int .i64 xt):=⟨c1,q0⟩
 go_enter func21,ntmps21;go_upto_region 3 with fail;refine aO (S:=(fun w'=>w'.cell? ⟨m,1,none⟩=some (.slice (some ⟨b1,o1,none⟩) L cap)/\w'.cell? ⟨b1,o1+k*8,none⟩=some (.int .i64 xt))) zq N0 (fun hHeld=> ?_);refine tk 0 hHeld ?_;refine tk 1 hHeld ?_;refine tk 2 hHeld ?_;refine tk 3 hHeld ?_ (hy:=Or.inl ⟨zA,zL⟩);refine tk 4 hHeld ?_;refine tk 5 hHeld ?_;refine tk 6 hHeld ?_;refine tk 7 hHeld ?_ (hy:=Or.inl ⟨zA,zL⟩);refine tk 8 hHeld ?_;refine tk 9 hHeld ?_;refine tk 10 hHeld ?_;refine tk 11 hHeld ?_;refine tk 12 hHeld ?_;refine tk 13 hHeld ?_ (hy:=Or.inl ⟨zA,zL⟩);refine tk 14 hHeld ?_;refine wpAnyH_done zq ?_ _;refine qn ?_;go_wp2;go_ret;exact ⟨rfl,(vP _ _).drew⟩
end
section
open Go Go.Maps
def aM (p:Plc):List Value:=[.int .i64 p.1,.int .i64 p.2.1,.string p.2.2]
def kE (p:Plc):Value:=.agg #[.int .i64 p.1,.int .i64 p.2.1,.string p.2.2]
theorem Hy (h:kE p=kE q):p=q:=by
 obtain ⟨a,b,s⟩:=p;obtain ⟨a',b',s'⟩:=q;simp [kE] at h;exact kr7
def dat (p:Plc):DataW Unit:=.agg [.lit (.int .i64 p.1),.lit (.int .i64 p.2.1),.lit (.string p.2.2.data.toList)]
theorem tL (h:dat p=dat q):p=q:=by
 obtain ⟨a,b,⟨⟨s⟩⟩⟩:=p;obtain ⟨a',b',⟨⟨s'⟩⟩⟩:=q;simp [dat] at h;exact kr7
def Lj (l:List Value):Option (DataW Unit×List MemPlace):=match l with
 | [.int .i64 a,.int .i64 b,.string s]=>some (dat (a,b,s),[])
 | _=>none
def IU (v:Value):Option (DataW Unit×List MemPlace):=match v with
 | .agg cs=>Lj cs.toList
 | _=>none
theorem sQ (p:Plc):IU (kE p)=some (dat p,[]):=rfl
theorem Fg {l:List Value} (h:Lj l=some z):∃p:Plc,l= [.int .i64 p.1,.int .i64 p.2.1,.string p.2.2]/\z=(dat p,[]):=by
 unfold Lj at h;split at h
 ·rename_i a b s
  cases h
  exact ⟨(a,b,s),rfl,rfl⟩
 cases h
theorem kq (h:IU v=some z):∃p,v=kE p/\z=(dat p,[]):=by
 unfold IU at h;split at h
 ·rename_i cs;obtain ⟨p,e,rfl⟩:=Fg h;refine ⟨p,?_,rfl⟩;unfold kE;rw [<-e]
 cases h
def Wf (k:Int):Prop:=(Lit.int .i64 k).wf=true
theorem og (h0: -2^63<=k) (h1:k<2^63):Wf k:=by
 unfold Wf;exact kl0
theorem kX (h:FineP p):Wf p.1/\Wf p.2.1:=by
 have h1:=h.lo;have h2:=h.hi;have h3:=h.lo';have h4:=h.hi';exact ⟨og zo zo,og zo zo⟩
theorem Ki (G:gr f) (h:f k=some p):Wf k:=by
 have:=(kX (G.fine k p h)).1;rwa [G.key k p h] at this
def ReadsAs (D:DataW Unit) (f:Sta):Prop:=∀k,Wf k->match f k with
 | none=>has D (.int .i64 k)=false
 | some p=>∀z,D.atKey (.int .i64 k) z=dat p
theorem ReadsAs.none (h:ReadsAs D f) (hk:Wf k) (hf:f k=none):has D (.int .i64 k)=false:=by
 exact kp1
theorem ReadsAs.some (h:ReadsAs D f) (hk:Wf k) (hf:f k=some p) (z:DataW Unit):D.atKey (.int .i64 k) z=dat p:=by
 exact ko1
theorem ReadsAs.has {D:DataW Unit} {f:Sta} (h:ReadsAs D f) {k:Int} (hk:Wf k):Maps.has D (.int .i64 k)=(f k).isSome:=by
 cases hf:f k with
 | none=>rw [h.none hk hf];rfl
 | some p=>rw [has_true_of_atKey (h.some hk hf)];rfl
theorem ReadsAs.at (h:ReadsAs D f) (hk:Wf k):D.atKey (.int .i64 k) (dat cV)=dat ((f k).getD cV):=by
 cases hf:f k with
 | none=>rw [atKey_of_not_has (h.none hk hf)];rfl
 | some p=>rw [h.some hk hf];rfl
theorem lB {a b:Int} (h:a≠b):Lit.int .i64 a≠Lit.int .i64 b:=fun e=>h (by injection e)
section
variable {P:Program} {K E T:TypeId}
def MapAt (P:Program) (K:TypeId) (w:World) (b n:Nat) (f:Sta):Prop:=∃D,w.ownsMap P K IU b n D/\ReadsAs D f
theorem MapAt.lt {w:World} {b n:Nat} {f:Sta} (h:MapAt P K w b n f):b<w.heap.size:=by
 obtain ⟨D,h,_⟩:=h;exact h.lt
theorem MapAt.mono {w:World} {b n n':Nat} {f:Sta} (h:MapAt P K w b n f) (hn:n<=n'):MapAt P K w b n' f:=by
 obtain ⟨D,h,r⟩:=h;exact ⟨D,h.mono hn,r⟩
theorem MapAt.same (h:MapAt P K w b n f) (e:w'.heap[b]? =w.heap[b]?):MapAt P K w' b n f:=by
 exact kq7
theorem MapAt.block (h:MapAt P K w b n f):∃es clock,w.heap[b]? =some (.map es clock):=by
 obtain ⟨D,⟨es,clock,hb,F⟩,r⟩:=h;exact ⟨es,clock,hb⟩
theorem AG (w:World):MapAt P K (w.alloc (.map #[] 0)) w.heap.size 0 mq:=
 ⟨_,World.ownsMap_made w P K IU,fun _ _=>rfl⟩
theorem MapAt.look (h:MapAt P K w b n f) (hK:P.underlying K=some (.int .i64)) (hT:P.underlying T=some (.map K E)) (hz:(zeroValue E).run P w= .ok (kE cV) w) (hk:Wf k):
  (Instr.lookup T (.map (some b)) (.int .i64 k) true).run P w= .ok (.tuple #[kE ((f k).getD cV),.bool (f k).isSome]) w:=by
 obtain ⟨D,h,r⟩:=h;obtain ⟨v,ps,hrun,hv⟩:=h.look_ok (int_keyed hK) hT hz (sQ cV) (keyOf_int_mk hK hk);obtain ⟨p,rfl,hp⟩:=kq hv;rw [r.at hk,Prod.mk.injEq] at hp;rw [hrun,r.has hk,tL hp.1]
theorem MapAt.look1 (h:MapAt P K w b n f) (hK:P.underlying K=some (.int .i64)) (hT:P.underlying T=some (.map K E)) (hz:(zeroValue E).run P w= .ok (kE cV) w) (hk:Wf k):
  (Instr.lookup T (.map (some b)) (.int .i64 k) false).run P w= .ok (kE ((f k).getD cV)) w:=by
 obtain ⟨D,h,r⟩:=h;obtain ⟨v,ps,hrun,hv⟩:=h.lookup (int_keyed hK) hT hz (sQ cV) (keyOf_int_mk hK hk);obtain ⟨p,rfl,hp⟩:=kq hv;rw [r.at hk,Prod.mk.injEq] at hp;rw [hrun,tL hp.1]
theorem Ci (h:ReadsAs D f) (hD:IsMap D) (k:Int) (p:Plc):ReadsAs (D.put (.int .i64 k) (dat p)) (upd f k (some p)):=by
 intro x hx;by_cases e:x=k
 ·subst e;rw [eU];exact kq6
 rw [ct e]
 cases hf:f x with
 | none=>rw [has_put_other (lB e)];exact h.none hx hf
 | some q=>intro z;rw [atKey_put_other (lB e)];exact h.some hx hf z
theorem CF (h:ReadsAs D f) (k:Int):ReadsAs (D.del (.int .i64 k)) (upd f k none):=by
 intro x hx;by_cases e:x=k
 ·subst e;rw [eU];exact has_del_same
 rw [ct e]
 cases hf:f x with
 | none=>rw [has_del_other (lB e)];exact h.none hx hf
 | some q=>intro z;rw [atKey_del_other (lB e)];exact h.some hx hf z
theorem MapAt.store {w:World} {b n:Nat} {f:Sta} (h:MapAt P K w b n f) (hK:P.underlying K=some (.int .i64)) (hT:P.underlying T=some (.map K E)) (hn:n<maxLen) {k:Int} (hk:Wf k) (p:Plc):
  ∃w',(Instr.mapUpdate T (.map (some b)) (.int .i64 k) (kE p)).run P w= .ok () w'/\MapAt P K w' b (n+1) (upd f k (some p))/\w.mapTurned w' b:=by
 obtain ⟨D,h,r⟩:=h;obtain ⟨w',hrun,h',ht⟩:=h.store (int_keyed hK) hT hn (keyOf_int_mk hK hk) (sQ p);exact ⟨w',hrun,⟨_,h',Ci r h.isMap k p⟩,ht⟩
theorem MapAt.drop {w:World} {b n:Nat} {f:Sta} (h:MapAt P K w b n f) (hK:P.underlying K=some (.int .i64)) (hT:P.underlying T=some (.map K E)) {k:Int} (hk:Wf k) (ty:TypeId):
  ∃w',(Builtin.delete_ #[T,K] ty #[.map (some b),.int .i64 k]).run P w= .ok (.tuple #[]) w'/\MapAt P K w' b n (upd f k none)/\w.mapTurned w' b:=by
 obtain ⟨D,h,r⟩:=h;obtain ⟨w',hrun,h',ht⟩:=h.drop (int_keyed hK) hT (keyOf_int_mk hK hk) ty;exact ⟨w',hrun,⟨_,h',CF r k⟩,ht⟩
end
end
section
open Go Go.Maps
abbrev kO:=Int->Option Nat
def noT:kO:=fun _=>none
def il (p:Option Nat):Value:=.pointer (p.map fun b=>⟨b,0,none⟩)
def CG (p:Option Nat):DataW Unit:=match p with
 | none=>.agg []
 | some b=>.agg [.lit (.int .i64 (b:Int))]
theorem wG {p q:Option Nat} (h:CG p=CG q):p=q:=by
 cases p<;>cases q<;>simp [CG] at h |-
 omega
def IS (v:Value):Option (DataW Unit×List MemPlace):=match v with
 | .pointer none=>some (CG none,[])
 | .pointer (some ⟨b,0,none⟩)=>some (CG (some b),[])
 | _=>none
theorem tF (p:Option Nat):IS (il p)=some (CG p,[]):=by cases p<;>rfl
theorem nj (h:IS v=some z):∃p,v=il p/\z=(CG p,[]):=by
 unfold IS at h;split at h
 ·cases h;exact ⟨none,rfl,rfl⟩
 ·cases h;exact ⟨some _,rfl,rfl⟩
 cases h
def ReadsT (D:DataW Unit) (f:kO):Prop:=∀k,Wf k->match f k with
 | none=>has D (.int .i64 k)=false
 | some p=>∀z,D.atKey (.int .i64 k) z=CG (some p)
theorem ReadsT.gone {f:kO} (h:ReadsT D f) (hk:Wf k) (hf:f k=none):has D (.int .i64 k)=false:=by
 exact kp1
theorem ReadsT.held {f:kO} (h:ReadsT D f) (hk:Wf k) {p:Nat} (hf:f k=some p) (z:DataW Unit):D.atKey (.int .i64 k) z=CG (some p):=by
 exact ko1
theorem ReadsT.has {D:DataW Unit} {f:kO} (h:ReadsT D f) {k:Int} (hk:Wf k):Maps.has D (.int .i64 k)=(f k).isSome:=by
 cases hf:f k with
 | none=>rw [h.gone hk hf];rfl
 | some p=>rw [has_true_of_atKey (h.held hk hf)];rfl
theorem ReadsT.at {f:kO} (h:ReadsT D f) (hk:Wf k):D.atKey (.int .i64 k) (CG none)=CG (f k):=by
 cases hf:f k with
 | none=>rw [atKey_of_not_has (h.gone hk hf)]
 | some p=>rw [h.held hk hf]
theorem Au {f:kO} (h:ReadsT D f) (hD:IsMap D) (k:Int) (p:Nat):ReadsT (D.put (.int .i64 k) (CG (some p))) (fun x=>if x=k then some p else f x):=by
 intro x hx;dsimp only;by_cases e:x=k
 ·subst e;rw [if_pos rfl];exact kq6
 rw [if_neg e]
 cases hf:f x with
 | none=>rw [has_put_other (lB e)];exact h.gone hx hf
 | some q=>intro z;rw [atKey_put_other (lB e)];exact h.held hx hf z
def Jq (f:kO):Prop:=∀k p,f k=some p->Wf k
structure TMapAt (w:World) (b n:Nat) (f:kO):Prop where
 reads:∃D,w.ownsMap prog 3 IS b n D/\ReadsT D f
 good:Jq f
theorem TMapAt.lt {w:World} {b n:Nat} {f:kO} (h:TMapAt w b n f):b<w.heap.size:=by
 obtain ⟨D,h,_⟩:=h.reads;exact h.lt
theorem TMapAt.mono {w:World} {b n n':Nat} {f:kO} (h:TMapAt w b n f) (hn:n<=n'):TMapAt w b n' f:=by
 obtain ⟨⟨D,h,r⟩,g⟩:=h;exact ⟨⟨D,h.mono hn,r⟩,g⟩
theorem TMapAt.same {f:kO} (h:TMapAt w b n f) (e:w'.heap[b]? =w.heap[b]?):TMapAt w' b n f:=by
 exact ko9
theorem tc (w:World):TMapAt (w.alloc (.map #[] 0)) w.heap.size 0 noT:=
 ⟨⟨_,World.ownsMap_made w prog 3 IS,fun _ _=>rfl⟩,fun k p h=>qF⟩
theorem wu (w:World):(zeroValue 148).run prog w= .ok (il none) w:=zeroValue148 w
theorem TMapAt.look {f:kO} (h:TMapAt w b n f) (hk:Wf k):
  (Instr.lookup 67 (.map (some b)) (.int .i64 k) true).run prog w= .ok (.tuple #[il (f k),.bool (f k).isSome]) w:=by
 obtain ⟨⟨D,h,r⟩,_⟩:=h;obtain ⟨v,ps,hrun,hv⟩:=h.look_ok (int_keyed underlying3) underlying67 (wu w) (tF none) (keyOf_int_mk underlying3 hk);obtain ⟨p,rfl,hp⟩:=nj hv;rw [r.at hk,Prod.mk.injEq] at hp;rw [hrun,r.has hk,wG hp.1]
theorem TMapAt.look1 {f:kO} (h:TMapAt w b n f) (hk:Wf k):
  (Instr.lookup 67 (.map (some b)) (.int .i64 k) false).run prog w= .ok (il (f k)) w:=by
 obtain ⟨⟨D,h,r⟩,_⟩:=h;obtain ⟨v,ps,hrun,hv⟩:=h.lookup (int_keyed underlying3) underlying67 (wu w) (tF none) (keyOf_int_mk underlying3 hk);obtain ⟨p,rfl,hp⟩:=nj hv;rw [r.at hk,Prod.mk.injEq] at hp;rw [hrun,wG hp.1]
theorem TMapAt.store {w:World} {b n:Nat} {f:kO} (h:TMapAt w b n f) (hn:n<maxLen) {k:Int} (hk:Wf k) (p:Nat):
  ∃w',(Instr.mapUpdate 67 (.map (some b)) (.int .i64 k) (il (some p))).run prog w= .ok () w'/\TMapAt w' b (n+1) (fun x=>if x=k then some p else f x)/\w.mapTurned w' b:=by
 obtain ⟨⟨D,h,r⟩,g⟩:=h;obtain ⟨w',hrun,h',ht⟩:=h.store (int_keyed underlying3) underlying67 hn (keyOf_int_mk underlying3 hk) (tF (some p));refine ⟨w',hrun,⟨⟨_,h',Au r h.isMap k p⟩,fun x q hx=> ?_⟩,ht⟩;split at hx
 ·rename_i e;rw [e];exact hk
 exact g x q hx
end
section
open Go.RowKit Go.Maps
theorem IN (w:World):(zeroValue 106).run prog w= .ok (kE cV) w:=zeroValue106 w
theorem MapAt.looks (h:MapAt prog 3 w b n f) (hk:Wf k):
  (Instr.lookup 184 (.map (some b)) (.int .i64 k) true).run prog w= .ok (.tuple #[kE ((f k).getD cV),.bool (f k).isSome]) w:=
 h.look underlying3 underlying184 (IN w) hk
theorem MapAt.looks1 (h:MapAt prog 3 w b n f) (hk:Wf k):
  (Instr.lookup 184 (.map (some b)) (.int .i64 k) false).run prog w= .ok (kE ((f k).getD cV)) w:=
 h.look1 underlying3 underlying184 (IN w) hk
theorem Jj (w:World):Calls prog 46 #[] w fun e w'=>e= .returned (.pointer (some ⟨w.heap.size+1,0,none⟩))/\w'=(w.alloc (.map #[] 0)).alloc (.cells #[.map (some w.heap.size),.slice none 0 0] 187):=by
 have hmm:= @run_makeMap prog;go_enter func46,ntmps46;exact kb4
end
section
open Go.RowKit Go.Maps
def PlcAt (w:World) (b:Nat) (p:Plc):Prop:=w.heap[b]? =some (.cells #[.int .i64 p.1,.int .i64 p.2.1,.string p.2.2] 106 (0,0))
theorem PlcAt.lt (h:PlcAt w b p):b<w.heap.size:=(vO.1 h).1
theorem PlcAt.c0 (h:PlcAt w b p):w.cell? ⟨b,0,none⟩=some (.int .i64 p.1):=qK
theorem PlcAt.c1 (h:PlcAt w b p):w.cell? ⟨b,1,none⟩=some (.int .i64 p.2.1):=qK
theorem PlcAt.c2 (h:PlcAt w b p):w.cell? ⟨b,2,none⟩=some (.string p.2.2):=qK
theorem PlcAt.fz (h:PlcAt w b p) (o:Nat):w.frozen? ⟨b,o,none⟩=false:=by unfold PlcAt at h;simp [World.frozen?,h]
theorem PlcAt.same (h:PlcAt w b p) (e:w'.heap[b]? =w.heap[b]?):PlcAt w' b p:=e.trans h
theorem PlcAt.stored (h:PlcAt w b p) (q:Plc):PlcAt (((w.setCell ⟨b,0,none⟩ (.int .i64 q.1)).setCell ⟨b,1,none⟩ (.int .i64 q.2.1)).setCell ⟨b,2,none⟩ (.string q.2.2)) b q:=by
 have h0:=heap_setCell_same w b 0 _ _ (.int .i64 q.1) h;have h1:=heap_setCell_same _ b 1 _ _ (.int .i64 q.2.1) h0;exact heap_setCell_same _ b 2 _ _ (.string q.2.2) h1
theorem PlcAt.storedBelow (q:Plc) (h:Below B w w') (hb:B<=b):Below B w (((w'.setCell ⟨b,0,none⟩ (.int .i64 q.1)).setCell ⟨b,1,none⟩ (.int .i64 q.2.1)).setCell ⟨b,2,none⟩ (.string q.2.2)):=
 ((h.setCell (p:=⟨b,0,none⟩) hb _).setCell (p:=⟨b,1,none⟩) hb _).setCell (p:=⟨b,2,none⟩) hb _
theorem MapAt.below (h:MapAt prog 3 w b n f) (hb:Below B w w') (hB:b<B):MapAt prog 3 w' b n f:=h.same (hb.block b hB)
theorem lv (w:World) (bt bm n:Nat) (f:Sta) (node of:Int) (z:Bool) (hz:z=true↔Ins f node of) (ht:w.cell? ⟨bt,0,none⟩=some (.map (some bm))) (hm:MapAt prog 3 w bm n f) (G:gr f) (hk:Wf node):
  Calls prog 96 #[.pointer (some ⟨bt,0,none⟩),.int .i64 node,.int .i64 of] w fun e w'=>e= .returned (.bool z)/\Below w.heap.size w w':=by
 have hbt:bt<w.heap.size:=block_lt_of_cell ht;obtain ⟨d,hd⟩:=G.rank;have hl:=hm.looks hk;unfold kE at hl;go_enter func96,ntmps96;go_wp2;obtain ⟨w0,hw0⟩:=zc (w.alloc (.cells #[.int .i64 ((f node).getD cV).1,.int .i64 ((f node).getD cV).2.1,.string ((f node).getD cV).2.2] 106))
 have hp0:PlcAt w0 w.heap.size ((f node).getD cV):=by rw [hw0];exact heap_alloc_new w _
 have hb0:Below w.heap.size w w0:=by rw [hw0];exact zh w _
 rw [<-hw0];clear hw0 hl;go_loopg [7,8] (d node+1) (fun kx s7 s8 wr=>∃(b7:Nat) (cur:Int),s7= .pointer (some ⟨b7,0,none⟩)/\s8= .bool (f cur).isSome/\w.heap.size<=b7/\PlcAt wr b7 ((f cur).getD cV)/\Wf cur/\(Ins f cur of↔Ins f node of)/\Below w.heap.size w wr/\(∀p,f cur=some p->d cur<kx))
 case atStart=>exact ⟨w.heap.size,node,rfl,rfl,vM _,hp0,hk,Iff.rfl,hb0,fun _ _=>Nat.lt_succ_self _⟩
 case round=>
  obtain ⟨b7,cur,rfl,rfl,hb7,hp,hkc,hi,hb,hkx⟩:=hrel;clear hp0 hb0 w0;have ht1:=(hb.cell (p:=⟨bt,0,none⟩) hbt).trans ht;have hm1:=hm.below hb hm.lt
  cases hf:f cur with
  | none=>
   have hno:z=false:=by
    cases z with
    | false=>rfl
    | true=>exact absurd (hi.2 (hz.1 rfl)) (wJ hf)
   subst hno;rw [hf] at hp;simp only [ZW];go_wp2;go_ret;exact ⟨rfl,hb⟩
  | some p=>
   rw [hf] at hp;simp only [ZY];have hc1:wr.cell? ⟨b7,1,none⟩=some (.int .i64 p.2.1):=hp.c1;by_cases he:p.2.1=of
   ·have hyes:z=true:=hz.2 (hi.1 ((oG hf).2 (.inl he)));subst hyes;have q0:decide (p.2.1=of)=true:=decide_eq_true he;go_wp2;go_ret;exact ⟨rfl,hb⟩
   have q0:decide (p.2.1=of)=false:=decide_eq_false he;have hkn:Wf p.2.1:=(kX (G.fine cur p hf)).2;have hc0:=hp.c0;have hc2:=hp.c2;go_wp2;obtain ⟨w1,hw1⟩:=zc (wr.alloc (.cells #[.int .i64 p.1,.int .i64 p.2.1,.string p.2.2] 106))
   have hp1:PlcAt w1 wr.heap.size p:=by rw [hw1];exact heap_alloc_new wr _
   have hb1:Below w.heap.size w w1:=by rw [hw1];exact hb.alloc hb.size _
   have hs1:w.heap.size<=wr.heap.size:=hb.size;rw [<-hw1];obtain ⟨b8,hb8⟩:=zc wr.heap.size
   rw [<-hb8] at hp1 hs1 |-
   have ht2:=(hb1.cell (p:=⟨bt,0,none⟩) hbt).trans ht;have hm2:=hm.below hb1 hm.lt;have hl2:=hm2.looks hkn;have hl3:=(show MapAt prog 3 w1.drew bm n f from hm2).looks hkn;unfold kE at hl2 hl3;have d0:=hp1.c0;have d1:=hp1.c1;have d2:=hp1.c2;have z0:=hp1.fz 0;have z1:=hp1.fz 1;have z2:=hp1.fz 2
   have F:Aside (PlcAt w1 b8 p/\Below w.heap.size w w1/\w.heap.size<=b8/\Wf p.2.1):=⟨hp1,hb1,hs1,hkn⟩
   clear hp hc0 hc1 hc2 hp1 hb1 hm2 hm1 ht1 hw1 hb8 hs1 hkn;go_region;go_wp2;go_roundg (d cur)
   case measure=>exact hkx p hf
   case rel=>exact ⟨b8,p.2.1,rfl,rfl,F.o.2.2.1,F.o.1.stored _,F.o.2.2.2,(by rw [<-hi,oG hf];exact ⟨.inr,fun h=>h.resolve_left he⟩),(PlcAt.storedBelow _ F.o.2.1 F.o.2.2.1).drew,fun _ _=>hd cur p hf⟩
