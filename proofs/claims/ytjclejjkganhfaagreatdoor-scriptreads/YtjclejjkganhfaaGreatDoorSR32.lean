import Derived.Test.YtjclejjkganhfaaGreatDoorSR29
import Derived.Test.YtjclejjkganhfaaGreatDoorSR30
set_option linter.unusedSimpArgs false
set_option linter.unusedVariables false
set_option maxRecDepth 100000
set_option maxHeartbeats 64000000
namespace Go.Proofs.YtjclejjkganhfaaGreatDoor
open Go.Proofs.Tryz
section
open RowKit Lib Go.Sort Maps
open scoped Classical
def FN(A:qX)(T:Int)(i n:Nat)(x:OpX)(a:OpX×Nat):Prop:=((kdO x=109\/kdO x=105\/kdO x=100\/kdO x=115)/\abp A T i n x a)\/(kdO x≠109/\kdO x≠105/\kdO x≠100/\kdO x≠115/\a=(lQ,5))
theorem FE(v)(w):qC 210 #[.string v] w fun e w'=>e= .returned (.int .u8 ((chO v).toNat:Int))/\w'=w:=by
 by_cases kv0:v.size=0
 ·have he:=EA kv0;rw [Rc kv0];go_enter func210,ntmps210;exact ka7
 have he:=Ig kv0;have lg:=VV v kv0;obtain ⟨cv,jS⟩:=ze (((chO v).toNat:Int))
 rw [<-jS.o] at lg |-
 go_enter func210,ntmps210;exact ka7
theorem Ri{B}{ad}(w)(c)(p br d)(i:Nat)(R)(x)(hP:t8 w p br d)(h:B9 B w c br (i:Int) R)(hE:S7 B ad w)(hcy:Aside (Cyc ad))(hi:i<4)(T)(hT:oE (lX R) T)(hm:T<=1073741824)(hn:(lX R).length<=250)
  (aI:x.2.2.2.2.2.2.1.size<=1000000) (aJ:x.2.2.2.2.2.2.2.size<=1000000) (hk:x.2.2.2.1<256) (h2: -9223372036854775808<=mY x/\mY x<=9223372036854775807) (h4: -9223372036854775808<=mX x/\mX x<=9223372036854775807):
  qC 152 #[qP p,mJ x] w (aad ad w (fun y cd=>FN (lX R) T i (R i).length x (y,cd))):=by
 obtain ⟨t,b,m,kd,nd,o,s,v⟩:=x;dsimp only at aI aJ hk h2 h4;obtain ⟨S,hS⟩:=za w.heap.size;obtain ⟨U,hU⟩:=za ((w.alloc (qOc t b m kd nd o s v)).alloc qZc);have ah:qL w U:=zP;have O0:m6 U S (t,b,m,kd,nd,o,s,v):=qe
 have Z0:m6 U (S+1) lQ:=by
  rw [hU,hS];have:=m6.F5 (w.alloc (qOc t b m kd nd o s v)) lQ;exact kc7
 obtain ⟨j0,j1,j2,j3,j4,j5,j6,j7,-⟩:=O0.cells;dsimp only at j0 j1 j2 j3 j4 j5 j6 j7;have p0:=(t8.same hP (ah.block p hP.lt)).c0;have gI:=ah.drew;have hR:=h.later gI;have jp:=hE.later gI
 have SD:t8 U.drew p br d/\m6 U.drew S (t,b,m,kd,nd,o,s,v):=⟨t8.same hP (ah.block p hP.lt),O0⟩
 have HLOW:Aside (4<S):=by have h1:=hE.G3.low;have h2:=hE.G3.size;rw [hS];show _<_;omega
 have HPL:Aside (p<S):=by rw [hS];exact hP.lt
 have ek:U.cell? (qB 4)=some (.iface 437 (.pointer (some (ad 4)))):=jp.G3.P7.c4;have c1:=zbe U.drew c br i R T o s hR jp hi hT hm hn aI h4.1 h4.2;have c2:=za4 U.drew c br i R T nd o s hR jp hcy hi hT hm hn aI h2.1 h2.2 h4.1 h4.2;have c3:=zao U.drew c br i R T nd o (chO v) hR jp hi hT hm hn h2.1 h2.2 h4.1 h4.2;have c4:=WA U.drew c br i R T nd o hR jp hi hT hm hn h2.1 h2.2 h4.1 h4.2;have c5:=zbI U.drew c br i R T nd s v hR jp hi hT hm hn aI aJ h2.1 h2.2
 have H0:Aside (U=(w.alloc (qOc t b m kd nd o s v)).alloc qZc/\m6 U.drew (S+1) lQ/\qL w U.drew/\S=w.heap.size):=⟨hU,Z0,gI,hS⟩
 have HC1:=Lib.hid c1;have HC2:=Lib.hid c2;have HC3:=Lib.hid c3;have HC4:=Lib.hid c4;have HC5:=Lib.hid c5;have hfb:=FE v U.drew;have HFB:=Lib.hid hfb;clear hU ah gI hS O0 hR jp h hE c1 c2 c3 c4 c5 h2 h4 hP hfb;obtain ⟨y0,y1,y2,y3,y4,y5,y6,y7,yf⟩:=m6.ct Z0;clear Z0;unfold mJ;go_enter func152,ntmps152;go_upto_region 1 with fail;rw [<-H0.o.1,<-H0.o.2.2.2];by_cases k1:kd=109
 ·have d1:((kd:Int)==109)=true:=by simp;omega
  by_cases k0:nd=0
  ·have d0:(nd==0)=true:=by simp [k0]
   have iU:Aside (∀a:OpX×Nat,a=BM (Qc (lX R) o) (nQ T i (R i).length 109 0 o s ⟨#[]⟩)->FN (lX R) T i (R i).length (t,b,m,kd,nd,o,s,v) a):=fun a q=>.inl ⟨.inl k1,.inl ⟨k1,k0,q⟩⟩
   clear k1 k0;go_upto_region 4 with fail;refine lV (S:=(fun w'=>t8 w' p br d/\m6 w' S (t,b,m,kd,nd,o,s,v))) zk SD (fun aa=> ?_);refine tk 0 aa ?_ (y:=ty zl);refine tk 1 aa ?_ (y:=ty zl);refine tk 2 aa ?_ (y:=ty zl);refine tk 3 aa ?_ (y:=ty zH);refine tk 4 aa ?_ (y:=ty zl);refine tk 5 aa ?_ (y:=ty zq);refine tk 6 aa ?_ (y:=ty zl);refine tk 7 aa ?_ (y:=ty zq);refine an (i:=8) zk rfl (fun kQ hK=> ?_);go_simp;refine HC1.o.mono ?_;rintro e w2 ⟨⟨t',b',m',kd',nd',o',s',v'⟩,cd,rfl,H2⟩;obtain ⟨er,aB⟩:=za (eV ad cd);rw [<-aB];unfold mJ;dsimp only
   have S2:t8 w2 p br d/\m6 w2 S (t,b,m,kd,nd,o,s,v):=⟨SD.1.same (H2.o.1.block p SD.1.lt),SD.2.later H2.o.1⟩
   obtain ⟨z0,z1,z2,z3,z4,z5,z6,z7,zf⟩:=m6.ct (H0.o.2.1.later H2.o.1)
   have gq:Aside (er=eV ad cd/\qL w w2):=⟨aB,zi H0.o.2.2.1 H2.o.1⟩
   clear aB;refine hK _ _ S2 ?_;clear hK kQ aa;have aa:=S2;refine qn ?_;refine tk 9 aa ?_ (y:=ty zl);refine tk 10 aa ?_ (y:=ty zl);refine an (i:=11) zk rfl (fun kQ hK=> ?_);go_simp
   have S3:t8 (w2.setCells (S+1) 0 (qOl t' b' m' kd' nd' o' s' v')) p br d/\m6 (w2.setCells (S+1) 0 (qOl t' b' m' kd' nd' o' s' v')) S (t,b,m,kd,nd,o,s,v):=⟨S2.1.same (mW (S+1) _ 0 w2 p qg),(mW (S+1) _ 0 w2 S zj).trans S2.2⟩
   refine hK _ _ S3 ?_;clear hK kQ;refine qn ?_;refine an (i:=12) zk rfl (fun kQ hK=> ?_);go_simp;refine hK _ _ S3 ?_;clear hK kQ;refine wpAnyH_done zk ?_ _;refine qn ?_;clear S3 S2 aa;go_wp2;(try simp only [Exit.inBlock,Exit.then]);refine bodyPost_ret (v:=.tuple #[.agg (qOa t' b' m' kd' nd' o' s' v'),er]) ?_ rfl ⟨(t',b',m',kd',nd',o',s',v'),cd,by rw [<-gq.o.1];rfl,?_,iU.o _ H2.o.2⟩
   ·exact kc1
   exact kd5
  have d0:(nd==0)=false:=by simp [k0]
  have iU:Aside (∀a:OpX×Nat,(∃ms,ms.Perm (pz (lX R))/\mn ms/\abw (sZ (lX R) nd &&Qc (lX R) o) (o=nd\/Ins (lM ms) o nd) (nQ T i (R i).length 109 nd o s ⟨#[]⟩) a)->FN (lX R) T i (R i).length (t,b,m,kd,nd,o,s,v) a):=fun a q=>.inl ⟨.inl k1,.inr (.inl ⟨k1,k0,q⟩)⟩
  clear k1 k0;go_upto_region 5 with fail;refine lV (S:=(fun w'=>t8 w' p br d/\m6 w' S (t,b,m,kd,nd,o,s,v))) zk SD (fun aa=> ?_);refine tk 0 aa ?_ (y:=ty zl);refine tk 1 aa ?_ (y:=ty zl);refine tk 2 aa ?_ (y:=ty zl);refine tk 3 aa ?_ (y:=ty zH);refine tk 4 aa ?_ (y:=ty zl);refine tk 5 aa ?_ (y:=ty zq);refine tk 6 aa ?_ (y:=ty zl);refine tk 7 aa ?_ (y:=ty zq);refine tk 8 aa ?_ (y:=ty zl);refine tk 9 aa ?_ (y:=ty zq);refine an (i:=10) zk rfl (fun kQ hK=> ?_);go_simp;refine HC2.o.mono ?_;rintro e w2 ⟨⟨t',b',m',kd',nd',o',s',v'⟩,cd,rfl,H2⟩;obtain ⟨er,aB⟩:=za (eV ad cd);rw [<-aB];unfold mJ;dsimp only
  have S2:t8 w2 p br d/\m6 w2 S (t,b,m,kd,nd,o,s,v):=⟨SD.1.same (H2.o.1.block p SD.1.lt),SD.2.later H2.o.1⟩
  obtain ⟨z0,z1,z2,z3,z4,z5,z6,z7,zf⟩:=m6.ct (H0.o.2.1.later H2.o.1)
  have gq:Aside (er=eV ad cd/\qL w w2):=⟨aB,zi H0.o.2.2.1 H2.o.1⟩
  clear aB;refine hK _ _ S2 ?_;clear hK kQ aa;have aa:=S2;refine qn ?_;refine tk 11 aa ?_ (y:=ty zl);refine tk 12 aa ?_ (y:=ty zl);refine an (i:=13) zk rfl (fun kQ hK=> ?_);go_simp
  have S3:t8 (w2.setCells (S+1) 0 (qOl t' b' m' kd' nd' o' s' v')) p br d/\m6 (w2.setCells (S+1) 0 (qOl t' b' m' kd' nd' o' s' v')) S (t,b,m,kd,nd,o,s,v):=⟨S2.1.same (mW (S+1) _ 0 w2 p qg),(mW (S+1) _ 0 w2 S zj).trans S2.2⟩
  refine hK _ _ S3 ?_;clear hK kQ;refine qn ?_;refine an (i:=14) zk rfl (fun kQ hK=> ?_);go_simp;refine hK _ _ S3 ?_;clear hK kQ;refine wpAnyH_done zk ?_ _;refine qn ?_;clear S3 S2 aa;go_wp2;(try simp only [Exit.inBlock,Exit.then]);refine bodyPost_ret (v:=.tuple #[.agg (qOa t' b' m' kd' nd' o' s' v'),er]) ?_ rfl ⟨(t',b',m',kd',nd',o',s',v'),cd,by rw [<-gq.o.1];rfl,?_,iU.o _ H2.o.2⟩
  ·exact kc1
  exact kd5
 have d1:((kd:Int)==109)=false:=zm;by_cases k2:kd=105
 ·have d2:((kd:Int)==105)=true:=by simp;omega
  have iU:Aside (∀a:OpX×Nat,(∃b:Int×Bool,N6 (lX R) nd o b/\a=BM b.2 (nQ T i (R i).length 105 nd b.1 ⟨#[]⟩ ⟨#[chO v]⟩))->FN (lX R) T i (R i).length (t,b,m,kd,nd,o,s,v) a):=fun a q=>.inl ⟨.inr (.inl k2),.inr (.inr (.inl ⟨k2,q⟩))⟩
  clear k1 k2;go_upto_region 7 with fail;refine lV (S:=(fun w'=>t8 w' p br d/\m6 w' S (t,b,m,kd,nd,o,s,v))) zk SD (fun aa=> ?_);refine tk 0 aa ?_ (y:=ty zl);refine tk 1 aa ?_ (y:=ty zl);refine tk 2 aa ?_ (y:=ty zl);refine tk 3 aa ?_ (y:=ty zH);refine tk 4 aa ?_ (y:=ty zl);refine tk 5 aa ?_ (y:=ty zq);refine tk 6 aa ?_ (y:=ty zl);refine tk 7 aa ?_ (y:=ty zq);refine tk 8 aa ?_ (y:=ty zl);refine tk 9 aa ?_ (y:=ty zq);refine an (i:=10) zk rfl (fun kQ hK=> ?_);go_simp;refine HFB.o.mono ?_;rintro e w1 ⟨rfl,rfl⟩;refine hK _ _ SD ?_;clear hK kQ;refine qn ?_;refine an (i:=11) zk rfl (fun kQ hK=> ?_);go_simp;refine HC3.o.mono ?_;rintro e w2 ⟨⟨t',b',m',kd',nd',o',s',v'⟩,cd,rfl,H2⟩;obtain ⟨er,aB⟩:=za (eV ad cd);rw [<-aB];unfold mJ;dsimp only
  have S2:t8 w2 p br d/\m6 w2 S (t,b,m,kd,nd,o,s,v):=⟨SD.1.same (H2.o.1.block p SD.1.lt),SD.2.later H2.o.1⟩
  obtain ⟨z0,z1,z2,z3,z4,z5,z6,z7,zf⟩:=m6.ct (H0.o.2.1.later H2.o.1)
  have gq:Aside (er=eV ad cd/\qL w w2):=⟨aB,zi H0.o.2.2.1 H2.o.1⟩
  clear aB;refine hK _ _ S2 ?_;clear hK kQ aa;have aa:=S2;refine qn ?_;refine tk 12 aa ?_ (y:=ty zl);refine tk 13 aa ?_ (y:=ty zl);refine an (i:=14) zk rfl (fun kQ hK=> ?_);go_simp
  have S3:t8 (w2.setCells (S+1) 0 (qOl t' b' m' kd' nd' o' s' v')) p br d/\m6 (w2.setCells (S+1) 0 (qOl t' b' m' kd' nd' o' s' v')) S (t,b,m,kd,nd,o,s,v):=⟨S2.1.same (mW (S+1) _ 0 w2 p qg),(mW (S+1) _ 0 w2 S zj).trans S2.2⟩
  refine hK _ _ S3 ?_;clear hK kQ;refine qn ?_;refine an (i:=15) zk rfl (fun kQ hK=> ?_);go_simp;refine hK _ _ S3 ?_;clear hK kQ;refine wpAnyH_done zk ?_ _;refine qn ?_;clear S3 S2 aa;go_wp2;(try simp only [Exit.inBlock,Exit.then]);refine bodyPost_ret (v:=.tuple #[.agg (qOa t' b' m' kd' nd' o' s' v'),er]) ?_ rfl ⟨(t',b',m',kd',nd',o',s',v'),cd,by rw [<-gq.o.1];rfl,?_,iU.o _ H2.o.2⟩
  ·exact kc1
  exact kd5
 have d2:((kd:Int)==105)=false:=zm;by_cases k3:kd=100
 ·have d3:((kd:Int)==100)=true:=by simp;omega
  have iU:Aside (∀a:OpX×Nat,(∃b:Int×Bool,Q7 (lX R) nd o b/\a=BM b.2 (nQ T i (R i).length 100 nd b.1 ⟨#[]⟩ ⟨#[]⟩))->FN (lX R) T i (R i).length (t,b,m,kd,nd,o,s,v) a):=fun a q=>.inl ⟨.inr (.inr (.inl k3)),.inr (.inr (.inr (.inl ⟨k3,q⟩)))⟩
  clear k1 k2 k3;go_upto_region 9 with fail;refine lV (S:=(fun w'=>t8 w' p br d/\m6 w' S (t,b,m,kd,nd,o,s,v))) zk SD (fun aa=> ?_);refine tk 0 aa ?_ (y:=ty zl);refine tk 1 aa ?_ (y:=ty zl);refine tk 2 aa ?_ (y:=ty zl);refine tk 3 aa ?_ (y:=ty zH);refine tk 4 aa ?_ (y:=ty zl);refine tk 5 aa ?_ (y:=ty zq);refine tk 6 aa ?_ (y:=ty zl);refine tk 7 aa ?_ (y:=ty zq);refine an (i:=8) zk rfl (fun kQ hK=> ?_);go_simp;refine HC4.o.mono ?_;rintro e w2 ⟨⟨t',b',m',kd',nd',o',s',v'⟩,cd,rfl,H2⟩;obtain ⟨er,aB⟩:=za (eV ad cd);rw [<-aB];unfold mJ;dsimp only
  have S2:t8 w2 p br d/\m6 w2 S (t,b,m,kd,nd,o,s,v):=⟨SD.1.same (H2.o.1.block p SD.1.lt),SD.2.later H2.o.1⟩
  obtain ⟨z0,z1,z2,z3,z4,z5,z6,z7,zf⟩:=m6.ct (H0.o.2.1.later H2.o.1)
  have gq:Aside (er=eV ad cd/\qL w w2):=⟨aB,zi H0.o.2.2.1 H2.o.1⟩
  clear aB;refine hK _ _ S2 ?_;clear hK kQ aa;have aa:=S2;refine qn ?_;refine tk 9 aa ?_ (y:=ty zl);refine tk 10 aa ?_ (y:=ty zl);refine an (i:=11) zk rfl (fun kQ hK=> ?_);go_simp
  have S3:t8 (w2.setCells (S+1) 0 (qOl t' b' m' kd' nd' o' s' v')) p br d/\m6 (w2.setCells (S+1) 0 (qOl t' b' m' kd' nd' o' s' v')) S (t,b,m,kd,nd,o,s,v):=⟨S2.1.same (mW (S+1) _ 0 w2 p qg),(mW (S+1) _ 0 w2 S zj).trans S2.2⟩
  refine hK _ _ S3 ?_;clear hK kQ;refine qn ?_;refine an (i:=12) zk rfl (fun kQ hK=> ?_);go_simp;refine hK _ _ S3 ?_;clear hK kQ;refine wpAnyH_done zk ?_ _;refine qn ?_;clear S3 S2 aa;go_wp2;(try simp only [Exit.inBlock,Exit.then]);refine bodyPost_ret (v:=.tuple #[.agg (qOa t' b' m' kd' nd' o' s' v'),er]) ?_ rfl ⟨(t',b',m',kd',nd',o',s',v'),cd,by rw [<-gq.o.1];rfl,?_,iU.o _ H2.o.2⟩
  ·exact kc1
  exact kd5
 have d3:((kd:Int)==100)=false:=zm;by_cases k4:kd=115
 ·have d4:((kd:Int)==115)=true:=by simp;omega
  have iU:Aside (∀a:OpX×Nat,a=BM (sZ (lX R) nd) (nQ T i (R i).length 115 nd 0 s v)->FN (lX R) T i (R i).length (t,b,m,kd,nd,o,s,v) a):=fun a q=>.inl ⟨.inr (.inr (.inr k4)),.inr (.inr (.inr (.inr ⟨k1,k2,k3,q⟩)))⟩
  clear k1 k2 k3 k4;go_upto_region 11 with fail;refine lV (S:=(fun w'=>t8 w' p br d/\m6 w' S (t,b,m,kd,nd,o,s,v))) zk SD (fun aa=> ?_);refine tk 0 aa ?_ (y:=ty zl);refine tk 1 aa ?_ (y:=ty zl);refine tk 2 aa ?_ (y:=ty zl);refine tk 3 aa ?_ (y:=ty zH);refine tk 4 aa ?_ (y:=ty zl);refine tk 5 aa ?_ (y:=ty zq);refine tk 6 aa ?_ (y:=ty zl);refine tk 7 aa ?_ (y:=ty zq);refine tk 8 aa ?_ (y:=ty zl);refine tk 9 aa ?_ (y:=ty zq);refine an (i:=10) zk rfl (fun kQ hK=> ?_);go_simp;refine HC5.o.mono ?_;rintro e w2 ⟨⟨t',b',m',kd',nd',o',s',v'⟩,cd,rfl,H2⟩;obtain ⟨er,aB⟩:=za (eV ad cd);rw [<-aB];unfold mJ;dsimp only
  have S2:t8 w2 p br d/\m6 w2 S (t,b,m,kd,nd,o,s,v):=⟨SD.1.same (H2.o.1.block p SD.1.lt),SD.2.later H2.o.1⟩
  obtain ⟨z0,z1,z2,z3,z4,z5,z6,z7,zf⟩:=m6.ct (H0.o.2.1.later H2.o.1)
  have gq:Aside (er=eV ad cd/\qL w w2):=⟨aB,zi H0.o.2.2.1 H2.o.1⟩
  clear aB;refine hK _ _ S2 ?_;clear hK kQ aa;have aa:=S2;refine qn ?_;refine tk 11 aa ?_ (y:=ty zl);refine tk 12 aa ?_ (y:=ty zl);refine an (i:=13) zk rfl (fun kQ hK=> ?_);go_simp
  have S3:t8 (w2.setCells (S+1) 0 (qOl t' b' m' kd' nd' o' s' v')) p br d/\m6 (w2.setCells (S+1) 0 (qOl t' b' m' kd' nd' o' s' v')) S (t,b,m,kd,nd,o,s,v):=⟨S2.1.same (mW (S+1) _ 0 w2 p qg),(mW (S+1) _ 0 w2 S zj).trans S2.2⟩
  refine hK _ _ S3 ?_;clear hK kQ;refine qn ?_;refine an (i:=14) zk rfl (fun kQ hK=> ?_);go_simp;refine hK _ _ S3 ?_;clear hK kQ;refine wpAnyH_done zk ?_ _;refine qn ?_;clear S3 S2 aa;go_wp2;(try simp only [Exit.inBlock,Exit.then]);refine bodyPost_ret (v:=.tuple #[.agg (qOa t' b' m' kd' nd' o' s' v'),er]) ?_ rfl ⟨(t',b',m',kd',nd',o',s',v'),cd,by rw [<-gq.o.1];rfl,?_,iU.o _ H2.o.2⟩
  ·exact kc1
  exact kd5
 have d4:((kd:Int)==115)=false:=zm;have iU:Aside (FN (lX R) T i (R i).length (t,b,m,kd,nd,o,s,v) (lQ,5)):=.inr ⟨k1,k2,k3,k4,rfl⟩;clear k1 k2 k3 k4;obtain ⟨V,hV⟩:=ze U.drew
 have HB:Aside (qL w V):=by rw [hV.o];exact H0.o.2.2.1
 have Z1:m6 V (S+1) lQ:=by rw [hV.o];exact H0.o.2.1
 have SV0:U.drew.cell? (qB 4)=some (.iface 437 (.pointer (some (ad 4)))):=ek
 have SV:V.cell? (qB 4)=some (.iface 437 (.pointer (some (ad 4)))):=by rw [hV.o];exact ek
 have SW:(V.setCells (S+1) 0 qZl).cell? (qB 4)=some (.iface 437 (.pointer (some (ad 4)))):=(uS (a:=(qB 4)) (mW (S+1) _ 0 V 4 (by have:=HLOW.o;omega))).trans SV;clear y0 y1 y2 y3 y4 y5 y6 y7 yf p0;obtain ⟨y0,y1,y2,y3,y4,y5,y6,y7,yf⟩:=m6.ct Z1;clear Z1 ek;go_upto_region 12 with fail;refine lV (S:=(fun w'=>w'.cell? (qB 4)=some (.iface 437 (.pointer (some (ad 4)))))) zk SV0 (fun aa=> ?_);rw [<-hV.o];clear aa;have aa:=SV;refine tk 0 aa ?_ (y:=ty zl);refine tk 1 aa ?_ (y:=ty xG);refine an (i:=2) zk rfl (fun kQ hK=> ?_);go_simp;refine hK _ _ SW ?_;clear hK kQ;refine qn ?_;refine an (i:=3) zk rfl (fun kQ hK=> ?_);go_simp;refine hK _ _ SW ?_;clear hK kQ;refine wpAnyH_done zk ?_ _;refine qn ?_;clear SW SV SV0 aa;go_wp2;(try simp only [Exit.inBlock,Exit.then]);refine bodyPost_ret (v:=.tuple #[.agg qZa,.iface 437 (.pointer (some (ad 4)))]) ?_ rfl ⟨lQ,5,rfl,?_,iU.o⟩
 ·exact kc1
 exact mZ (b:=S+1) HB.o yU 0 qZl
end
section
open RowKit Lib Go.Sort Maps
open scoped Classical
attribute [local go_sem] Oper.semAt_some
def XJ(w:qW)(qs:List Plc)(nms:List qU)(e:Ending)(w':qW):Prop:=
 ((∃b,e=qT #[qI b,.bool true]/\M7 qs 0 nms b)\/(e=qT #[qI 0,.bool false]/\∃pre nm rest b,pre++nm::rest=nms/\M7 qs 0 pre b/\GM qs b nm))/\qL w w'
structure S9 (w4:qW) (S B:Nat) (l8:Int) (W:qW):Prop where
 l8:Boxed W (S+1+1) 3 (qI l8)
 r0:Boxed W S 3 (qI 0)
 r1:Boxed W (S+1) 4 (.bool false)
 size:w4.heap.size<=W.heap.size
 F9:m7 (fun k=>k=S+1+1\/k=B+1) w4 W
theorem S9.grow{w4}{S B}(j9:S+1+1<B){l8}{X Y}{row}(h:S9 w4 S B l8 X)(hg:X.grownBy Y row)(hr:∀r,row=some r->r=B+1\/(w4.heap.size<=r/\∃o:Obj,X.heap[r]? =some o/\o.isCells=false)):S9 w4 S B l8 Y:=by
 have bx:∀ {k:Nat} {t:TypeId} {v:Value},Boxed X k t v->k≠B+1->Boxed Y k t v:=fun {k t v} hb hk=>hb.kept hg (fun e=>by
  rcases hr k e.symm with q | ⟨_,o,ho,hc⟩
  ·exact hk q
  ·unfold Boxed at hb
   rw [hb] at ho
   cases ho
   cases hc)
 refine ⟨bx h.l8 zj,bx h.r0 zj,bx h.r1 zj,uO h.size hg.size,⟨hg.os.trans h.F9.os,hg.tape.trans h.F9.tape,hg.output.trans h.F9.output,uO h.F9.size hg.size,fun k hk hs=> ?_⟩⟩;rw [<-h.F9.block k hk hs];refine hg.block k (by have:=h.size;omega) (fun e=> ?_)
 grind
theorem S9.I8(w4)(S B)(j9:S+1+1<B)(qs):abj w4.heap.size (fun r=>r=B+1) (fun pre W=>∃l8,S9 w4 S B l8 W/\M7 qs 0 pre l8):=fun pre X Y row ⟨l8,h,hw⟩ hg hr=>⟨l8,h.grow j9 hg hr,hw⟩
def aa9(w4:qW)(S B:Nat)(qs:List Plc)(c:Code)(pre:List qU)(W:qW):Prop:=c= .ret/\(∃p0 x b l8,pre=p0++ [x]/\M7 qs 0 p0 b/\GM qs b x/\S9 w4 S B l8 W)
theorem aa9.I8(w4)(S B)(j9:S+1+1<B)(qs)(c):abj w4.heap.size (fun r=>r=B+1) (aa9 w4 S B qs c):=fun pre X Y row ⟨hc,p0,x,b,l8,h1,h2,h3,h4⟩ hg hr=>⟨hc,p0,x,b,l8,h1,h2,h3,h4.grow j9 hg hr⟩
theorem L9.adw{w W}{v}{qs}{T}(h:L9 w v qs)(hk:m7 T w W)(hT:∀k,T k->∃t u,Boxed w k t u):L9 W v qs:=by
 rcases h with ⟨h1,h2⟩ | ⟨g,cap,h1,hg,hc⟩
 ·exact .inl ⟨h1,h2⟩
 refine .inr ⟨g,cap,h1,uT hg hk.size,fun j u hj=> ?_⟩
 have hne:¬T g:=fun q=>by
  obtain ⟨t,u',hb⟩:=hT g q
  cases qs with
  | nil=>simp [mP] at hj
  | cons a r=>
   have k:=hc 2 (.string a.2.2) rfl;unfold Boxed at hb;simp [World.cell?,hb] at k
 exact (uS (a:=(qA g j)) (hk.block g hg hne)).trans (hc j u hj)
theorem XD(w)(br bt bm n)(v)(f)(h:Q2 w br bt bm n v f)(qs)(hq:C3 f qs)(hql:qs.length<=300)(path)(nm:ByteArray)(hp:path.data.toList=47::nm.data.toList)(hne:nm.data.toList≠ [])(hsz:path.size<=1000000)
  (aF:Lib.TabIs prog w "internal/strconv.uint64pow10" .u64 Lib.pow10Tab) (m) (hmax:w.cell? ⟨14,0,none⟩=some (.int .i64 m)):
  Calls prog 105 #[.pointer (some ⟨br,0,none⟩),.string path] w (XJ w qs (nF 47 nm.data.toList)):=by
 have HT:Aside (Lib.TabBelow prog w.heap.size w "internal/strconv.uint64pow10" .u64 Lib.pow10Tab):=Lib.tabBelow_of_tabIs aF
 have hc:=fun u=>Tryz.strings_CutPrefix path ⟨#[47]⟩ u
 have kj:(⟨#[47]⟩:ByteArray).data.toList= [47]:=rfl
 have ht:Lib.trimPrefix (47::nm.data.toList) [47]=nm.data.toList:=by simp [Lib.trimPrefix,Lib.hasPrefix]
 have hh:Lib.hasPrefix (47::nm.data.toList) [47]=true:=by simp [Lib.hasPrefix]
 rw [kj,hp,ht,hh,Bd] at hc;have hnb:=sJ hne
 have hnz:nm.size<=1000000:=by have h1:=ot path;have h2:=ot nm;rw [hp,Za] at h1;omega
 have H:Aside (Q2 w br bt bm n v f/\C3 f qs/\(∀p∈qs,Bu p)/\w.cell? ⟨14,0,none⟩=some (.int .i64 m)):=⟨h,hq,tg h.U9 hq,hmax⟩
 have H1:Aside (∀W,Below w.heap.size w W->Calls prog 135 #[.pointer (some ⟨br,0,none⟩)] W fun e w'=>e= .returned (.pointer (some ⟨bt,0,none⟩))/\w'=W):=fun W hW=>sK W br bt bm n v f (h.later hW)
 have H3:Aside (∀W,Below w.heap.size w W->Calls prog 129 #[.pointer (some ⟨bt,0,none⟩)] W fun e w'=>∃u,e= .returned u/\Aside (L9 w' u qs/\Below W.heap.size W w')):=fun W hW=>Io W br bt bm n v f (h.later hW) qs hq
 clear h hq hp hne hsz aF hmax kj ht hh;obtain ⟨S,hS⟩:=za w.heap.size;refine (callsIn_wide (n:=4)).1 ?_;refine callsIn_of_wp_marks func105 rfl trivial ?_ rfl;simp only [ntmps105,Zl,Za,Zq,Nat.reduceAdd,Nat.reduceSub,Zv,Zw,ZD,ZA,ZF,ZE];gi_wp2_with (refine ⟨trivial,?_⟩;gi_at_call 139;refine ((callsIn_wide (n:=4 - 1)).2 (hc _)).mono ?_;rintro e w1 ⟨rfl,rfl⟩);obtain ⟨U,hU⟩:=za (((w.alloc (.cells #[.int .i64 0] 3)).alloc (.cells #[.bool false] 4)).alloc (.cells #[.int .i64 0] 3));rw [<-hU,<-hS]
 have ah:Below w.heap.size w U:=by rw [hU];exact ((zh w _).alloc zr _).alloc zm _
 have hsU:U.heap.size=S+3:=by rw [hU,hS];simp
 have u0:Boxed U S 3 (.int .i64 0):=by
  have:=(zcl w (.cells #[.int .i64 0] 3) (.cells #[.bool false] 4)).1;rw [hU,hS];exact (uR _ _ _ zm).trans this
 have u1:Boxed U (S+1) 4 (.bool false):=by
  have:=(zcl w (.cells #[.int .i64 0] 3) (.cells #[.bool false] 4)).2;rw [hU,hS];exact (uR _ _ _ zr).trans this
 have u2:Boxed U (S+1+1) 3 (.int .i64 0):=by
  have:=heap_alloc_new ((w.alloc (.cells #[.int .i64 0] 3)).alloc (.cells #[.bool false] 4)) (.cells #[.int .i64 0] 3);simp only [Zt] at this;rw [hU,hS];exact this
 have h1:=H1.o U ah;have h3:=H3.o U ah
 have HS:Aside (S=w.heap.size/\U.heap.size=S+3/\Below w.heap.size w U/\Boxed U S 3 (.int .i64 0)/\Boxed U (S+1) 4 (.bool false)/\Boxed U (S+1+1) 3 (.int .i64 0)):=⟨hS,hsU,ah,u0,u1,u2⟩
 clear hU hc hS hsU ah u0 u1 u2;refine ⟨trivial,?_⟩;refine ((callsIn_wide (n:=3)).2 h1).mono ?_;clear h1;rintro e w2 ⟨rfl,hw2⟩;obtain rfl:=hw2.symm;clear hw2
 gi_wp2_with (first
  | (refine ⟨trivial,?_⟩;gi_at_call 129;refine ((callsIn_wide (n:=4 - 1)).2 h3).mono ?_;rintro e w3 ⟨u,rfl,H4⟩;obtain ⟨ao,cap,rfl,hP⟩:=H4.o.1.abX)
  | (refine ⟨trivial,?_⟩;gi_at_call 140;refine ((callsIn_wide (n:=4 - 1)).2 (Fd _ nm)).mono ?_;rintro e w4 ⟨rfl,rfl⟩))
 obtain ⟨B,hB⟩:=za w3.heap.size;obtain ⟨w4,cZ⟩:=za (((((w3.alloc (.cells #[.slice ao qs.length cap] 209)).alloc (.cells #[.string nm] 9)).alloc (.cells #[.string ⟨#[47]⟩] 9)).alloc (.cells #[.int .i64 0] 3)));have e4:=zaK w3 (.cells #[.slice ao qs.length cap] 209) (.cells #[.string nm] 9) (.cells #[.string ⟨#[47]⟩] 9) (.cells #[.int .i64 0] 3)
 have i7:w4.heap.size=B+4:=by rw [cZ,hB];simp
 have eP:Below w3.heap.size w3 w4:=qd;rw [<-cZ,<-hB] at e4;rw [<-cZ,<-hB];obtain ⟨k1,k2,k3,k4⟩:=e4
 have j9:S+1+1<B:=by have:=H4.o.2.size;have:=HS.o.2.1;omega
 have hU4:=zi H4.o.2 eP;have cu:=zi HS.o.2.2.1 hU4;have hP4:=H4.o.1.later eP
 have F4:S9 w4 S B 0 w4:=⟨(hU4.block _ HS.o.2.2.2.2.2.lt).trans HS.o.2.2.2.2.2,(hU4.block _ HS.o.2.2.2.1.lt).trans HS.o.2.2.2.1,(hU4.block _ HS.o.2.2.2.2.1.lt).trans HS.o.2.2.2.2.1,uL _,m7.refl _ _⟩
 have kP:=lO cu H.o.2.2.2
 have hGB:B+1≠14:=by have:=uN w ⟨14,0,none⟩ H.o.2.2.2;have:=HS.o.1;dsimp only at*;omega
 have X4:X8 (B+1) m nm w4:=⟨k2,k3,k4,kP⟩
 have H5:Aside (L9 w4 (.slice ao qs.length cap) qs/\Boxed w4 B 209 (.slice ao qs.length cap)/\Below w.heap.size w w4/\w.heap.size<=S/\Boxed w4 (B+1) 9 (.string nm)):=⟨hP4,k1,cu,by have:=HS.o.1;omega,k2⟩
 clear cZ hB k1 k2 k3 k4 hP h3 eP hU4 kP hP4
 refine Xe (M:=fun r=>r=B+1) zj (gf:=254) (lb:= #[.pointer (some ⟨B+1+1,0,none⟩),.pointer (some ⟨B+1,0,none⟩),.pointer (some ⟨B+1+1+1,0,none⟩)]) rfl (enters_of func254 zk rfl) (fun r e=>by rw [e,i7];omega)
  (Ow (4 - 1) zj (B+1) m hGB nm hnz w4 X4) Y3.trans (fun W l r o hl ho=>fun k hk=> ?kb) rfl
  (fun pre W=>∃l8,S9 w4 S B l8 W/\M7 qs 0 pre l8) (aa9 w4 S B qs) (S9.I8 w4 S B j9 qs) (aa9.I8 w4 S B j9 qs) ⟨0,F4,rfl⟩
  (fun x a' W=>∃Bx,w4.heap.size<=Bx/\Boxed W Bx 9 (.string ⟨x.toArray⟩)/\a'= {tmps:= #[.pointer (some ⟨br,0,none⟩),.string path,undef,undef,.pointer (some ⟨S,0,none⟩),.pointer (some ⟨S+1,0,none⟩),.string nm,.bool true,.pointer (some ⟨S+1+1,0,none⟩),.pointer (some ⟨B,0,none⟩),.pointer (some ⟨Bx,0,none⟩),undef,undef,.tuple #[.string nm,.bool true],.string path,.tuple #[.string nm,.bool true],.string nm,.bool true,.pointer (some ⟨br,0,none⟩),.bool false,.bool false,.bool true,.bool false,.bool false,.string nm,.bool false,undef,.pointer (some ⟨br,0,none⟩),.pointer (some ⟨bt,0,none⟩),.slice ao qs.length cap,.string nm,.func (.func 254) #[] #[.pointer (some ⟨B+1+1,0,none⟩),.pointer (some ⟨B+1,0,none⟩),.pointer (some ⟨B+1+1+1,0,none⟩)],.string ⟨x.toArray⟩,undef,undef,undef,undef,undef,undef,undef,undef,undef,undef,undef,undef,undef,undef],defers:=[]})
  ?ax ?assign ?body ?done ?stop
 case kb=>
  refine Yb (fun e=> ?_);exact kj7
 case ax=>
  intro x a' _ X Y row hs hg hr;obtain ⟨Bx,f1,f2,f3⟩:=hs;refine ⟨Bx,f1,f2.kept hg (fun e=> ?_),f3⟩
  rcases hr Bx e.symm with q | ⟨_,o,ho,hc⟩
  ·omega
  unfold Boxed at f2;rw [f2] at ho
  cases ho
  cases hc
 case assign=>
  rintro l pre x W K ⟨l8,hF,hW⟩ hK;have dl:Aside _:=hK;have hsz:=hF.size;clear hK;gi_wp2;refine dl.o _ _ ((KeepsOthers.alloc _ _).from _) (fun k hk=> ?_) ⟨l8,hF.grow j9 (YI W _ none) (fun r e=>yN),hW⟩ ⟨W.heap.size,zj,heap_alloc_new W _,rfl⟩;refine uR _ _ _ ?_;exact kj7
 case body=>
  rintro l pre x a' W hl ⟨l8,hF,hW⟩ ⟨Bx,hBx,hE,rfl⟩ hlt;have hBW:=H5.o.2.2.1.trans (hF.F9.m8 H5.o.2.2.1.size (fun k e=>qr));have hPW:=H5.o.1.adw hF.F9 (fun k e=>e.elim (fun q=>by rw [q];exact ⟨_,_,F4.l8⟩) (fun q=>by rw [q];exact ⟨_,_,H5.o.2.2.2.2⟩));have iH:=CZ W (.slice ao qs.length cap) qs l8 hPW hql H.o.2.2.1 (HT.o W hBW);have g9:=(uS (a:=⟨B,0,none⟩) (hF.F9.block B zj zj)).trans H5.o.2.1.cell;have g8:=hF.l8.cell
  have HW:Aside (S9 w4 S B l8 W/\M7 qs 0 pre l8/\Boxed W Bx 9 (.string ⟨x.toArray⟩)/\B+4<=Bx/\w4.heap.size=B+4):=⟨hF,hW,hE,zj,i7⟩
  clear hBW hPW hF hW hE;gi_wp2_with (refine ⟨trivial,?_⟩;gi_at_call 134;refine (CallsIn.inRound l ((callsIn_wide (n:=4 - 1 - 1 - 1)).2 iH)).mono ?_;rintro e w5 ⟨v',es,rfl,HE⟩;obtain ⟨ao',cap',rfl,hEin⟩:=HE.o.1.abX)
  have aQ:=RI (fun e=>decide (e.1=⟨x.toArray⟩)) 142 #[.pointer (some ⟨Bx,0,none⟩)] (enters_of func142 zk rfl) ao' cap' w5.heap.size es w5 zg (fun W' y _ gR=>Po W' Bx y ⟨x.toArray⟩ (lO gR (lO HE.o.2.2 HW.o.2.2.1.cell))) (by
   obtain ⟨R,hR,_,rfl⟩:=HE.o.2.1
   rw [Zh,hR.length_eq]
   grind) hEin
  refine ⟨trivial,?_⟩;refine (CallsIn.inRound l ((callsIn_wide (n:=1)).2 aQ)).mono ?_;clear aQ iH g8 g9;rintro e w6 ⟨r,rfl,HR⟩;have hb6:=zi HE.o.2.2 HR.o.2;have F6:=HW.o.1.grow j9 (nu hb6) (fun q e=>yN)
  have HF:Aside (S9 w4 S B l8 w6/\Below W.heap.size W w6):=⟨F6,hb6⟩
  have xb:∀y:ByteArray,y.data.toList=x↔y=⟨x.toArray⟩:=fun y=>⟨fun e=>by rw [<-e],fun e=>by rw [e]⟩
  rcases HR.o.1 with ⟨hr,ha⟩ | ⟨k,e,hr,hk,he,hfst⟩
  ·subst hr
   have hno:GM qs l8 x:=⟨es,HE.o.2.1,fun e he q=>by
    grind⟩
   have HN:=Lib.hid hno;have r0:=F6.r0.cell;have r0f:=F6.r0.frozen;have r1:=F6.r1.cell;have r1f:=F6.r1.frozen;clear ha hno F6 hb6 xb;gi_wp2;have g1:=grownBy_setCell' w6 S (.int .i64 0);have g2:=grownBy_setCell' (w6.setCell ⟨S,0,none⟩ (.int .i64 0)) (S+1) (.bool false);have kO:KeepsOthers W ((w6.setCell ⟨S,0,none⟩ (.int .i64 0)).setCell ⟨S+1,0,none⟩ (.bool false)):=((KeepsOthers.of_grownBy (nu HF.o.2) (fun j o e=>yN)).trans (KeepsOthers.setCell _ _ _)).trans (KeepsOthers.setCell _ _ _);refine ⟨kO.from _,rfl,pre,x,l8,l8,rfl,HW.o.2.1,HN.o,?_⟩;have F6:=HF.o.1;have q0:=F6.r0.set (.int .i64 0);have q1:=F6.r1.other (B':=S) zj (.int .i64 0);have q2:=F6.l8.other (B':=S) zj (.int .i64 0);refine ⟨q2.other zj _,q0.other zj _,q1.set _,xn,⟨g2.os.trans (g1.os.trans F6.F9.os),g2.tape.trans (g1.tape.trans F6.F9.tape),g2.output.trans (g1.output.trans F6.F9.output),xn,fun k hk hs=> ?_⟩⟩;by_cases k0:k=S
   ·rw [k0];exact (q0.other (B':=S+1) zj (.bool false)).trans F4.r0.symm
   by_cases k1:k=S+1
   ·rw [k1];exact (q1.set (.bool false)).trans F4.r1.symm
   rw [g2.block k (by have:=F6.size;have:=g1.size;omega) (fun e=>by cases e;exact k1 rfl),g1.block k (by have:=F6.size;omega) (fun e=>by cases e;exact k0 rfl)];exact F6.F9.block k hk hs
  have kU:Ec qs l8 x e.2:=⟨es,k,e,HE.o.2.1,hk,(xb _).2 (of_decide_eq_true he),fun j y hj hy q=>by
   grind,rfl⟩
  have HN:=Lib.hid kU;obtain ⟨g',off',iO,q0,q1⟩:=(hEin.later HR.o.2).e hk;subst iO;have hkl:=(uI.1 hk).1;have ek:r.toNat=k:=zj;have p0:(0:Int)<=r:=zj;have n8:=F6.l8.cell;have n8f:=F6.l8.frozen;clear kU hk he hfst F6 hb6 xb;gi_wp2;have g1:=grownBy_setCell' w6 (S+1+1) (.int .i64 e.2);have kO:KeepsOthers W (w6.setCell ⟨S+1+1,0,none⟩ (.int .i64 e.2)):=(KeepsOthers.of_grownBy (nu HF.o.2) (fun j o e=>yN)).trans (KeepsOthers.setCell _ _ _);have F6:=HF.o.1;refine ⟨kO.from _,fun k hk=> ?_,e.2,⟨F6.l8.set _,F6.r0.other zj _,F6.r1.other zj _,xn,⟨g1.os.trans F6.F9.os,g1.tape.trans F6.F9.tape,g1.output.trans F6.F9.output,xn,fun k hk hs=> ?_⟩⟩,HW.o.2.1.aa2 HN.o⟩
  ·have hG:=uN w4 ⟨14,0,none⟩ X4.max;have hG2:=uN w ⟨14,0,none⟩ H.o.2.2.2;dsimp only at hG hG2;have hwS:=H5.o.2.2.2.1;have hWs:=HW.o.1.size
   have hkW:k<W.heap.size:=by rcases hk with q | q | q | q<;>omega
   have hkS:k≠S+1+1:=by rcases hk with q | q | q | q<;>omega
   rw [g1.block k (by have:=HF.o.2.size;omega) (fun e=>zL)];exact HF.o.2.block k hkW
  rw [g1.block k (by have:=F6.size;omega) (fun e=>zL)];exact F6.F9.block k hk hs
 case done=>
  rintro D xs W hD hall ⟨l8,hF,hW⟩ hK;subst hall;have g8:=hF.l8.cell;have r0:=hF.r0.cell;have r0f:=hF.r0.frozen;have r1:=hF.r1.cell;have r1f:=hF.r1.frozen;gi_wp2;have b0:Boxed (W.setCell ⟨S,0,none⟩ (.int .i64 l8)) S 3 (.int .i64 l8):=hF.r0.set _;have b1:Boxed (W.setCell ⟨S,0,none⟩ (.int .i64 l8)) (S+1) 4 (.bool false):=hF.r1.other zj _;obtain ⟨V,hV⟩:=za ((W.setCell ⟨S,0,none⟩ (.int .i64 l8)).setCell ⟨S+1,0,none⟩ (.bool true))
  have v0:Boxed V S 3 (.int .i64 l8):=by rw [hV];exact b0.other zj _
  have v1:Boxed V (S+1) 4 (.bool true):=by rw [hV];exact b1.set _
  have g1:=grownBy_setCell' W S (.int .i64 l8);have g2:=grownBy_setCell' (W.setCell ⟨S,0,none⟩ (.int .i64 l8)) (S+1) (.bool true);rw [<-hV] at g2;have hDl:=(uK.1 hK).1
  have hDV:V.heap[D]? =some (.deferred (some [])):=by
   rw [g2.block D zL (fun e=>by cases e;omega),g1.block D hDl (fun e=>by cases e;omega)];exact hK
  have hBW:=H5.o.2.2.1.trans (hF.F9.m8 H5.o.2.2.1.size (fun k e=>qr));have hBV:=(hBW.grown g1 hBW.size (fun k e=>by cases e;exact H5.o.2.2.2.1)).grown g2 (by have:=hBW.size;simp_all) (fun k e=>by cases e;have:=H5.o.2.2.2.1;omega);rw [<-hV];refine ⟨zr,.inl ⟨_,_,rfl,run_takeDeferred hDV,?_⟩⟩;have z0:(V.putObj D (.deferred none)).cell? ⟨S,0,none⟩=some (.int .i64 l8):=(uS (a:=⟨S,0,none⟩) (Yb (show S≠D by omega))).trans v0.cell;have z1:(V.putObj D (.deferred none)).cell? ⟨S+1,0,none⟩=some (.bool true):=(uS (a:=⟨S+1,0,none⟩) (Yb (show S+1≠D by omega))).trans v1.cell;refine ⟨.tuple #[.int .i64 l8,.bool true],by simp [results,f105,go_sem,z0,z1],.inl ⟨l8,rfl,hW⟩,hBV.trans (belowK_b (w:=w) zg V D _ _ qr hDV rfl rfl)⟩
 case stop=>
  rintro D c pre W hD ⟨rest,hrest⟩ ⟨rfl,p0,x,b,l8,hp,hw0,hno,hF⟩ hK;have r0:=hF.r0.cell;have r1:=hF.r1.cell;gi_wp2;have hBW:=H5.o.2.2.1.trans (hF.F9.m8 H5.o.2.2.1.size (fun k e=>by have:=H5.o.2.2.2.1;rcases e with q | q<;>omega));refine ⟨zr,.inl ⟨_,_,rfl,run_takeDeferred hK,?_⟩⟩;have z0:(W.putObj D (.deferred none)).cell? ⟨S,0,none⟩=some (.int .i64 0):=(uS (a:=⟨S,0,none⟩) (Yb (show S≠D by omega))).trans r0;have z1:(W.putObj D (.deferred none)).cell? ⟨S+1,0,none⟩=some (.bool false):=(uS (a:=⟨S+1,0,none⟩) (Yb (show S+1≠D by omega))).trans r1;refine ⟨.tuple #[.int .i64 0,.bool false],by simp [results,f105,go_sem,z0,z1],.inr ⟨rfl,p0,x,rest,b,?_,hw0,hno⟩,hBW.trans (belowK_b (w:=w) zg W D _ _ qr hK rfl rfl)⟩
  simp_all

end