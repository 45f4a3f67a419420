import Derived.Test.YtjclejjkganhfaaGreatDoorSA27
set_option linter.unusedSimpArgs false
set_option linter.unusedVariables false
set_option maxRecDepth 100000
set_option maxHeartbeats 64000000
namespace Go.Proofs.YtjclejjkganhfaaGreatDoor
open Go.Proofs.Tryz
section
open RowKit Lib Go.Sort Maps
open scoped Classical
theorem VA{ok}{x y}{cd}(h:(y,cd)=Bu ok x)(hc:cd=0):ok=true/\pZ x=0/\y=x:=by
 grind [Bu]
theorem FP{ok}{x y}(h:(y,0)=Bu ok x)(hx:x.1<=1073741824->True):ok=true/\mz x=0/\y=x:=by
 obtain ⟨h1,h2,h3⟩:=VA h rfl
 grind [pZ]
theorem Qn{x}(h:pZ x=0):mz x=0:=by
 grind [pZ]
theorem Qf{R}(hR:t7 R){T}{i}{x y}(h:aa5 (lY R) T i (R i).length x (y,0)):U0 R i T y:=by
 have up:∀ {nd:Int},m9 (lY R) nd->m9 (y::lY R) nd:=fun q=>q.mono (fun z hz=>Za _ hz)
 rcases h with ⟨_,_,h⟩ | ⟨_,_,ms,_,_,h⟩ | ⟨_,b,hb,h⟩ | ⟨_,b,hb,h⟩ | ⟨_,_,_,h⟩
 ·obtain ⟨h1,h2,rfl⟩:=FP h (fun _=>trivial);refine wB h2 ⟨.inl ⟨rfl,rfl⟩,fun _=>(plcB_iff.1 h1).imp id (fun q=>q.imp id up),fun q=> ?_⟩
  rcases q with ⟨q,_⟩ | q<;>exact absurd q (by show ¬(109=_);decide)
 ·rcases h with ⟨_,e⟩ | ⟨_,q,e⟩ | ⟨_,_,_,e⟩ | ⟨h1,h2,_,e⟩
  ·cases e
  ·simp_all
  ·cases e
  cases e
  rw [Yk,knownB_iff,plcB_iff] at h1;have bU:=we hR.G5.ok h1.1;refine wB (Qn h2) ⟨.inr ?_,fun _=>h1.2.imp id (fun q=>q.imp id (fun q=>q.mono (fun z hz=>Za _ hz))),fun q=> ?_⟩
  ·grind [sv,Za]
  rcases q with ⟨q,_⟩ | q<;>exact absurd q (by show ¬(109=_);decide)
 ·obtain ⟨h1,h2,rfl⟩:=FP h (fun _=>trivial)
  have hkl:m9 (lY R) (mU x)/\(0<b.1->I8 (lY R) (mU x) b.1):=by
   rcases hb with ⟨_,q2,q3⟩ | ⟨_,a1,a2⟩
   ·simp_all
   have hk:m9 (lY R) (mU x):=by
    by_cases hk:m9 (lY R) (mU x)
    ·exact hk
    simp_all
   obtain ⟨L,hL,ea⟩:=a2 hk;exact ⟨hk,fun _=>hL.U7.1 (Ky (n:=mT x - 1) (by rw [<-ea,<-h1]))⟩
  have bU:=we hR.G5.ok hkl.1;refine wB h2 ⟨.inr ?_,fun q=>absurd q (by show ¬(105=_);decide),fun q=> ?_⟩
  ·grind [sv,Za]
  rw [sv zj];refine (hkl.2 ?_).mono (fun z hz=>Za _ hz)
  rcases q with ⟨_,q⟩ | q
  ·exact q
  exact absurd q (by show ¬(105=_);decide)
 ·obtain ⟨h1,h2,rfl⟩:=FP h (fun _=>trivial)
  have hk:m9 (lY R) (mU x):=by
   by_cases hk:m9 (lY R) (mU x)
   ·exact hk
   rw [hb.1 hk] at h1;cases h1
  obtain ⟨L,hL,ea⟩:=hb.2 hk;have hl:=hL.U7.1 (Ky (n:=mT x) (by rw [<-ea,<-h1]));have bU:=we hR.G5.ok hk;refine wB h2 ⟨.inr ?_,fun q=>absurd q (by show ¬(100=_);decide),fun _=> ?_⟩
  ·grind [sv,Za]
  rw [sv zj];exact hl.mono (fun z hz=>Za _ hz)
 obtain ⟨h1,h2,rfl⟩:=FP h (fun _=>trivial);have hk:=knownB_iff.1 h1;have bU:=we hR.G5.ok hk;refine wB h2 ⟨.inr ?_,fun q=>absurd q (by show ¬(115=_);decide),fun q=> ?_⟩
 ·grind [sv,Za]
 rcases q with ⟨q,_⟩ | q<;>exact absurd q (by show ¬(115=_);decide)
theorem SF(x):pZ x<=11:=by
 grind [PZ,pZ]
theorem FA(ok)(x):(Bu ok x).2<=11:=by
 grind [SF,Bu]
theorem zat{A}{T}{i n}{x}{a}(h:aa5 A T i n x a):a.2<=11:=by
 rcases h with ⟨_,_,h⟩ | ⟨_,_,ms,_,_,h⟩ | ⟨_,b,_,h⟩ | ⟨_,b,_,h⟩ | ⟨_,_,_,h⟩
 ·rw [h];exact FA _ _
 ·rcases h with ⟨_,e⟩ | ⟨_,_,e⟩ | ⟨_,_,_,e⟩ | ⟨_,_,_,e⟩
  ·rw [e];show 6<=11;omega
  ·rw [e];exact SF _
  ·rw [e];show 10<=11;omega
  simp_all
 ·rw [h];exact FA _ _
 ·rw [h];exact FA _ _
 rw [h];exact FA _ _
theorem wH{ok}{x}{a}(h:a=Bu ok x)(hc:a.2≠0):a.1=lQ:=by
 rw [h] at hc |-
 unfold Bu at hc |-
 grind
theorem RE{A}{T}{i n}{x}{a}(h:aa5 A T i n x a)(hc:a.2≠0):a.1=lQ:=by
 rcases h with ⟨_,_,h⟩ | ⟨_,_,ms,_,_,h⟩ | ⟨_,b,_,h⟩ | ⟨_,b,_,h⟩ | ⟨_,_,_,h⟩
 ·exact wH h hc
 ·rcases h with ⟨_,e⟩ | ⟨_,_,e⟩ | ⟨_,_,_,e⟩ | ⟨_,_,_,e⟩
  ·rw [e]
  ·rw [e]
  ·rw [e]
  simp_all
 ·exact wH h hc
 ·exact wH h hc
 exact wH h hc
theorem Om{A}{T}(dC:∀x∈A,mz x=0)(h:oA A T):0<=T/\T<=1073741824:=by
 refine ⟨h.2.2,?_⟩
 rcases h.2.1 with e | ⟨x,hx,e⟩
 ·omega
 have:=(mP (dC x hx)).2.1;omega
def Fr(A:qX)(T:Int)(i n:Nat)(x:OpX)(a:OpX×Nat):Prop:=((kdO x=109\/kdO x=105\/kdO x=100\/kdO x=115)/\aa5 A T i n x a)\/(kdO x≠109/\kdO x≠105/\kdO x≠100/\kdO x≠115/\a=(lQ,5))
theorem Hg(v)(w):qC 210 #[.string v] w fun e w'=>e= .returned (.int .u8 ((chO v).toNat:Int))/\w'=w:=by
 by_cases kv0:v.size=0
 ·have he:=Ew kv0;rw [UF kv0];go_enter func210,ntmps210;exact ka7
 have he:=KZ kv0;have kG:=UB v kv0;obtain ⟨cv,i7⟩:=ze (((chO v).toNat:Int))
 rw [<-i7.o] at kG |-
 go_enter func210,ntmps210;exact ka7
theorem Vk{B}{ad}(w)(c)(p br d)(i:Nat)(R)(x)(hP:u7 w p br d)(h:C8 B w c br (i:Int) R)(hE:S9 B ad w)(hcy:Aside (Cyc ad))(hi:i<4)(T)(hT:oA (lY R) T)(hm:T<=1073741824)(hn:(lY R).length<=250)
  (aG:x.2.2.2.2.2.2.1.size<=1000000) (aN:x.2.2.2.2.2.2.2.size<=1000000) (hk:x.2.2.2.1<256) (h2: -9223372036854775808<=mU x/\mU x<=9223372036854775807) (h4: -9223372036854775808<=mT x/\mT x<=9223372036854775807):
  qC 152 #[qP p,mH x] w (aae ad w (fun y cd=>Fr (lY R) T i (R i).length x (y,cd))):=by
 obtain ⟨t,b,m,kd,nd,o,s,v⟩:=x;dsimp only at aG aN hk h2 h4;obtain ⟨S,hS⟩:=za w.heap.size;obtain ⟨U,hU⟩:=za ((w.alloc (qOc t b m kd nd o s v)).alloc qZc);have ah:qL w U:=zP;have O0:m6 U S (t,b,m,kd,nd,o,s,v):=qh
 have Z0:m6 U (S+1) lQ:=by
  rw [hU,hS];have:=m6.GA (w.alloc (qOc t b m kd nd o s v)) lQ;exact kc7
 obtain ⟨j0,j1,j2,j3,j4,j5,j6,j7,-⟩:=O0.cells;dsimp only at j0 j1 j2 j3 j4 j5 j6 j7;have p0:=(u7.same hP (ah.block p hP.lt)).c0;have gL:=ah.drew;have hR:=h.later gL;have je:=hE.later gL
 have SD:u7 U.drew p br d/\m6 U.drew S (t,b,m,kd,nd,o,s,v):=⟨u7.same hP (ah.block p hP.lt),O0⟩
 have HLOW:Aside (4<S):=by have h1:=hE.G6.low;have h2:=hE.G6.size;rw [hS];show _<_;omega
 have HPL:Aside (p<S):=by rw [hS];exact hP.lt
 have ek:U.cell? (qB 4)=some (.iface 437 (.pointer (some (ad 4)))):=je.G6.Q1.c4;have c1:=zbW U.drew c br i R T o s hR je hi hT hm hn aG h4.1 h4.2;have c2:=zcc U.drew c br i R T nd o s hR je hcy hi hT hm hn aG h2.1 h2.2 h4.1 h4.2;have c3:=XD U.drew c br i R T nd o (chO v) hR je hi hT hm hn h2.1 h2.2 h4.1 h4.2;have c4:=zaQ U.drew c br i R T nd o hR je hi hT hm hn h2.1 h2.2 h4.1 h4.2;have c5:=zcS U.drew c br i R T nd s v hR je hi hT hm hn aG aN h2.1 h2.2
 have H0:Aside (U=(w.alloc (qOc t b m kd nd o s v)).alloc qZc/\m6 U.drew (S+1) lQ/\qL w U.drew/\S=w.heap.size):=⟨hU,Z0,gL,hS⟩
 have HC1:=Lib.hid c1;have HC2:=Lib.hid c2;have HC3:=Lib.hid c3;have HC4:=Lib.hid c4;have HC5:=Lib.hid c5;have hfb:=Hg v U.drew;have HFB:=Lib.hid hfb;clear hU ah gL hS O0 hR je h hE c1 c2 c3 c4 c5 h2 h4 hP hfb;obtain ⟨y0,y1,y2,y3,y4,y5,y6,y7,yf⟩:=m6.ct Z0;unfold mH;go_enter func152,ntmps152;go_upto_region 1 with fail;rw [<-H0.o.1,<-H0.o.2.2.2];by_cases k1:kd=109
 ·have d1:((kd:Int)==109)=true:=by simp;omega
  by_cases k0:nd=0
  ·have d0:(nd==0)=true:=by simp [k0]
   have iN:Aside (∀a:OpX×Nat,a=Bu (SJ (lY R) o) (nR T i (R i).length 109 0 o s ⟨#[]⟩)->Fr (lY R) T i (R i).length (t,b,m,kd,nd,o,s,v) a):=fun a q=>.inl ⟨.inl k1,.inl ⟨k1,k0,q⟩⟩
   clear k1 k0;go_upto_region 4 with fail;refine lV (S:=(fun w'=>u7 w' p br d/\m6 w' S (t,b,m,kd,nd,o,s,v))) zk SD (fun aa=> ?_);refine tk 0 aa ?_ (y:=ty zm);refine tk 1 aa ?_ (y:=ty zm);refine tk 2 aa ?_ (y:=ty zm);refine tk 3 aa ?_ (y:=ty zI);refine tk 4 aa ?_ (y:=ty zm);refine tk 5 aa ?_ (y:=ty zr);refine tk 6 aa ?_ (y:=ty zm);refine tk 7 aa ?_ (y:=ty zr);refine an (i:=8) zk rfl (fun kQ hK=> ?_);go_simp;refine HC1.o.mono ?_;rintro e w2 ⟨⟨t',b',m',kd',nd',o',s',v'⟩,cd,rfl,H2⟩;obtain ⟨er,aB⟩:=za (eV ad cd);rw [<-aB];unfold mH;dsimp only
   have S2:u7 w2 p br d/\m6 w2 S (t,b,m,kd,nd,o,s,v):=⟨SD.1.same (H2.o.1.block p SD.1.lt),SD.2.later H2.o.1⟩
   obtain ⟨z0,z1,z2,z3,z4,z5,z6,z7,zf⟩:=m6.ct (H0.o.2.1.later H2.o.1)
   have gc:Aside (er=eV ad cd/\qL w w2):=⟨aB,zi H0.o.2.2.1 H2.o.1⟩
   refine hK _ _ S2 ?_;have aa:=S2;refine qn ?_;refine tk 9 aa ?_ (y:=ty zm);refine tk 10 aa ?_ (y:=ty zm);refine an (i:=11) zk rfl (fun kQ hK=> ?_);go_simp
   have S3:u7 (w2.setCells (S+1) 0 (qOl t' b' m' kd' nd' o' s' v')) p br d/\m6 (w2.setCells (S+1) 0 (qOl t' b' m' kd' nd' o' s' v')) S (t,b,m,kd,nd,o,s,v):=⟨S2.1.same (mR (S+1) _ 0 w2 p qj),(mR (S+1) _ 0 w2 S zj).trans S2.2⟩
   refine hK _ _ S3 ?_;refine qn ?_;refine an (i:=12) zk rfl (fun kQ hK=> ?_);go_simp;refine hK _ _ S3 ?_;refine wpAnyH_done zk ?_ _;refine qn ?_;go_wp2;(try simp only [Exit.inBlock,Exit.then]);refine bodyPost_ret (v:=.tuple #[.agg (qOa t' b' m' kd' nd' o' s' v'),er]) ?_ rfl ⟨(t',b',m',kd',nd',o',s',v'),cd,by rw [<-gc.o.1];rfl,?_,iN.o _ H2.o.2⟩
   ·exact kc3
   exact kd6
  have d0:(nd==0)=false:=by simp [k0]
  have iN:Aside (∀a:OpX×Nat,(∃ms,ms.Perm (pu (lY R))/\ml ms/\abo (re (lY R) nd &&SJ (lY R) o) (o=nd\/Ins (mX ms) o nd) (nR T i (R i).length 109 nd o s ⟨#[]⟩) a)->Fr (lY R) T i (R i).length (t,b,m,kd,nd,o,s,v) a):=fun a q=>.inl ⟨.inl k1,.inr (.inl ⟨k1,k0,q⟩)⟩
  clear k1 k0;go_upto_region 5 with fail;refine lV (S:=(fun w'=>u7 w' p br d/\m6 w' S (t,b,m,kd,nd,o,s,v))) zk SD (fun aa=> ?_);refine tk 0 aa ?_ (y:=ty zm);refine tk 1 aa ?_ (y:=ty zm);refine tk 2 aa ?_ (y:=ty zm);refine tk 3 aa ?_ (y:=ty zI);refine tk 4 aa ?_ (y:=ty zm);refine tk 5 aa ?_ (y:=ty zr);refine tk 6 aa ?_ (y:=ty zm);refine tk 7 aa ?_ (y:=ty zr);refine tk 8 aa ?_ (y:=ty zm);refine tk 9 aa ?_ (y:=ty zr);refine an (i:=10) zk rfl (fun kQ hK=> ?_);go_simp;refine HC2.o.mono ?_;rintro e w2 ⟨⟨t',b',m',kd',nd',o',s',v'⟩,cd,rfl,H2⟩;obtain ⟨er,aB⟩:=za (eV ad cd);rw [<-aB];unfold mH;dsimp only
  have S2:u7 w2 p br d/\m6 w2 S (t,b,m,kd,nd,o,s,v):=⟨SD.1.same (H2.o.1.block p SD.1.lt),SD.2.later H2.o.1⟩
  obtain ⟨z0,z1,z2,z3,z4,z5,z6,z7,zf⟩:=m6.ct (H0.o.2.1.later H2.o.1)
  have gc:Aside (er=eV ad cd/\qL w w2):=⟨aB,zi H0.o.2.2.1 H2.o.1⟩
  refine hK _ _ S2 ?_;clear hK kQ aa;have aa:=S2;refine qn ?_;refine tk 11 aa ?_ (y:=ty zm);refine tk 12 aa ?_ (y:=ty zm);refine an (i:=13) zk rfl (fun kQ hK=> ?_);go_simp
  have S3:u7 (w2.setCells (S+1) 0 (qOl t' b' m' kd' nd' o' s' v')) p br d/\m6 (w2.setCells (S+1) 0 (qOl t' b' m' kd' nd' o' s' v')) S (t,b,m,kd,nd,o,s,v):=⟨S2.1.same (mR (S+1) _ 0 w2 p qj),(mR (S+1) _ 0 w2 S zj).trans S2.2⟩
  refine hK _ _ S3 ?_;clear hK kQ;refine qn ?_;refine an (i:=14) zk rfl (fun kQ hK=> ?_);go_simp;refine hK _ _ S3 ?_;clear hK kQ;refine wpAnyH_done zk ?_ _;refine qn ?_;clear S3 S2 aa;go_wp2;(try simp only [Exit.inBlock,Exit.then]);refine bodyPost_ret (v:=.tuple #[.agg (qOa t' b' m' kd' nd' o' s' v'),er]) ?_ rfl ⟨(t',b',m',kd',nd',o',s',v'),cd,by rw [<-gc.o.1];rfl,?_,iN.o _ H2.o.2⟩
  ·exact kc3
  exact kd6
 have d1:((kd:Int)==109)=false:=zl;by_cases k2:kd=105
 ·have d2:((kd:Int)==105)=true:=by simp;omega
  have iN:Aside (∀a:OpX×Nat,(∃b:Int×Bool,N9 (lY R) nd o b/\a=Bu b.2 (nR T i (R i).length 105 nd b.1 ⟨#[]⟩ ⟨#[chO v]⟩))->Fr (lY R) T i (R i).length (t,b,m,kd,nd,o,s,v) a):=fun a q=>.inl ⟨.inr (.inl k2),.inr (.inr (.inl ⟨k2,q⟩))⟩
  clear k1 k2;go_upto_region 7 with fail;refine lV (S:=(fun w'=>u7 w' p br d/\m6 w' S (t,b,m,kd,nd,o,s,v))) zk SD (fun aa=> ?_);refine tk 0 aa ?_ (y:=ty zm);refine tk 1 aa ?_ (y:=ty zm);refine tk 2 aa ?_ (y:=ty zm);refine tk 3 aa ?_ (y:=ty zI);refine tk 4 aa ?_ (y:=ty zm);refine tk 5 aa ?_ (y:=ty zr);refine tk 6 aa ?_ (y:=ty zm);refine tk 7 aa ?_ (y:=ty zr);refine tk 8 aa ?_ (y:=ty zm);refine tk 9 aa ?_ (y:=ty zr);refine an (i:=10) zk rfl (fun kQ hK=> ?_);go_simp;refine HFB.o.mono ?_;rintro e w1 ⟨rfl,rfl⟩;refine hK _ _ SD ?_;clear hK kQ;refine qn ?_;refine an (i:=11) zk rfl (fun kQ hK=> ?_);go_simp;refine HC3.o.mono ?_;rintro e w2 ⟨⟨t',b',m',kd',nd',o',s',v'⟩,cd,rfl,H2⟩;obtain ⟨er,aB⟩:=za (eV ad cd);rw [<-aB];unfold mH;dsimp only
  have S2:u7 w2 p br d/\m6 w2 S (t,b,m,kd,nd,o,s,v):=⟨SD.1.same (H2.o.1.block p SD.1.lt),SD.2.later H2.o.1⟩
  obtain ⟨z0,z1,z2,z3,z4,z5,z6,z7,zf⟩:=m6.ct (H0.o.2.1.later H2.o.1)
  have gc:Aside (er=eV ad cd/\qL w w2):=⟨aB,zi H0.o.2.2.1 H2.o.1⟩
  clear aB;refine hK _ _ S2 ?_;clear hK kQ aa;have aa:=S2;refine qn ?_;refine tk 12 aa ?_ (y:=ty zm);refine tk 13 aa ?_ (y:=ty zm);refine an (i:=14) zk rfl (fun kQ hK=> ?_);go_simp
  have S3:u7 (w2.setCells (S+1) 0 (qOl t' b' m' kd' nd' o' s' v')) p br d/\m6 (w2.setCells (S+1) 0 (qOl t' b' m' kd' nd' o' s' v')) S (t,b,m,kd,nd,o,s,v):=⟨S2.1.same (mR (S+1) _ 0 w2 p qj),(mR (S+1) _ 0 w2 S zj).trans S2.2⟩
  refine hK _ _ S3 ?_;clear hK kQ;refine qn ?_;refine an (i:=15) zk rfl (fun kQ hK=> ?_);go_simp;refine hK _ _ S3 ?_;clear hK kQ;refine wpAnyH_done zk ?_ _;refine qn ?_;clear S3 S2 aa;go_wp2;(try simp only [Exit.inBlock,Exit.then]);refine bodyPost_ret (v:=.tuple #[.agg (qOa t' b' m' kd' nd' o' s' v'),er]) ?_ rfl ⟨(t',b',m',kd',nd',o',s',v'),cd,by rw [<-gc.o.1];rfl,?_,iN.o _ H2.o.2⟩
  ·exact kc3
  exact kd6
 have d2:((kd:Int)==105)=false:=zl;by_cases k3:kd=100
 ·have d3:((kd:Int)==100)=true:=by simp;omega
  have iN:Aside (∀a:OpX×Nat,(∃b:Int×Bool,Q9 (lY R) nd o b/\a=Bu b.2 (nR T i (R i).length 100 nd b.1 ⟨#[]⟩ ⟨#[]⟩))->Fr (lY R) T i (R i).length (t,b,m,kd,nd,o,s,v) a):=fun a q=>.inl ⟨.inr (.inr (.inl k3)),.inr (.inr (.inr (.inl ⟨k3,q⟩)))⟩
  clear k1 k2 k3;go_upto_region 9 with fail;refine lV (S:=(fun w'=>u7 w' p br d/\m6 w' S (t,b,m,kd,nd,o,s,v))) zk SD (fun aa=> ?_);refine tk 0 aa ?_ (y:=ty zm);refine tk 1 aa ?_ (y:=ty zm);refine tk 2 aa ?_ (y:=ty zm);refine tk 3 aa ?_ (y:=ty zI);refine tk 4 aa ?_ (y:=ty zm);refine tk 5 aa ?_ (y:=ty zr);refine tk 6 aa ?_ (y:=ty zm);refine tk 7 aa ?_ (y:=ty zr);refine an (i:=8) zk rfl (fun kQ hK=> ?_);go_simp;refine HC4.o.mono ?_;rintro e w2 ⟨⟨t',b',m',kd',nd',o',s',v'⟩,cd,rfl,H2⟩;obtain ⟨er,aB⟩:=za (eV ad cd);rw [<-aB];unfold mH;dsimp only
  have S2:u7 w2 p br d/\m6 w2 S (t,b,m,kd,nd,o,s,v):=⟨SD.1.same (H2.o.1.block p SD.1.lt),SD.2.later H2.o.1⟩
  obtain ⟨z0,z1,z2,z3,z4,z5,z6,z7,zf⟩:=m6.ct (H0.o.2.1.later H2.o.1)
  have gc:Aside (er=eV ad cd/\qL w w2):=⟨aB,zi H0.o.2.2.1 H2.o.1⟩
  clear aB;refine hK _ _ S2 ?_;clear hK kQ aa;have aa:=S2;refine qn ?_;refine tk 9 aa ?_ (y:=ty zm);refine tk 10 aa ?_ (y:=ty zm);refine an (i:=11) zk rfl (fun kQ hK=> ?_);go_simp
  have S3:u7 (w2.setCells (S+1) 0 (qOl t' b' m' kd' nd' o' s' v')) p br d/\m6 (w2.setCells (S+1) 0 (qOl t' b' m' kd' nd' o' s' v')) S (t,b,m,kd,nd,o,s,v):=⟨S2.1.same (mR (S+1) _ 0 w2 p qj),(mR (S+1) _ 0 w2 S zj).trans S2.2⟩
  refine hK _ _ S3 ?_;clear hK kQ;refine qn ?_;refine an (i:=12) zk rfl (fun kQ hK=> ?_);go_simp;refine hK _ _ S3 ?_;clear hK kQ;refine wpAnyH_done zk ?_ _;refine qn ?_;clear S3 S2 aa;go_wp2;(try simp only [Exit.inBlock,Exit.then]);refine bodyPost_ret (v:=.tuple #[.agg (qOa t' b' m' kd' nd' o' s' v'),er]) ?_ rfl ⟨(t',b',m',kd',nd',o',s',v'),cd,by rw [<-gc.o.1];rfl,?_,iN.o _ H2.o.2⟩
  ·exact kc3
  exact kd6
 have d3:((kd:Int)==100)=false:=zl;by_cases k4:kd=115
 ·have d4:((kd:Int)==115)=true:=by simp;omega
  have iN:Aside (∀a:OpX×Nat,a=Bu (re (lY R) nd) (nR T i (R i).length 115 nd 0 s v)->Fr (lY R) T i (R i).length (t,b,m,kd,nd,o,s,v) a):=fun a q=>.inl ⟨.inr (.inr (.inr k4)),.inr (.inr (.inr (.inr ⟨k1,k2,k3,q⟩)))⟩
  clear k1 k2 k3 k4;go_upto_region 11 with fail;refine lV (S:=(fun w'=>u7 w' p br d/\m6 w' S (t,b,m,kd,nd,o,s,v))) zk SD (fun aa=> ?_);refine tk 0 aa ?_ (y:=ty zm);refine tk 1 aa ?_ (y:=ty zm);refine tk 2 aa ?_ (y:=ty zm);refine tk 3 aa ?_ (y:=ty zI);refine tk 4 aa ?_ (y:=ty zm);refine tk 5 aa ?_ (y:=ty zr);refine tk 6 aa ?_ (y:=ty zm);refine tk 7 aa ?_ (y:=ty zr);refine tk 8 aa ?_ (y:=ty zm);refine tk 9 aa ?_ (y:=ty zr);refine an (i:=10) zk rfl (fun kQ hK=> ?_);go_simp;refine HC5.o.mono ?_;rintro e w2 ⟨⟨t',b',m',kd',nd',o',s',v'⟩,cd,rfl,H2⟩;obtain ⟨er,aB⟩:=za (eV ad cd);rw [<-aB];unfold mH;dsimp only
  have S2:u7 w2 p br d/\m6 w2 S (t,b,m,kd,nd,o,s,v):=⟨SD.1.same (H2.o.1.block p SD.1.lt),SD.2.later H2.o.1⟩
  obtain ⟨z0,z1,z2,z3,z4,z5,z6,z7,zf⟩:=m6.ct (H0.o.2.1.later H2.o.1)
  have gc:Aside (er=eV ad cd/\qL w w2):=⟨aB,zi H0.o.2.2.1 H2.o.1⟩
  clear aB;refine hK _ _ S2 ?_;clear hK kQ aa;have aa:=S2;refine qn ?_;refine tk 11 aa ?_ (y:=ty zm);refine tk 12 aa ?_ (y:=ty zm);refine an (i:=13) zk rfl (fun kQ hK=> ?_);go_simp
  have S3:u7 (w2.setCells (S+1) 0 (qOl t' b' m' kd' nd' o' s' v')) p br d/\m6 (w2.setCells (S+1) 0 (qOl t' b' m' kd' nd' o' s' v')) S (t,b,m,kd,nd,o,s,v):=⟨S2.1.same (mR (S+1) _ 0 w2 p qj),(mR (S+1) _ 0 w2 S zj).trans S2.2⟩
  refine hK _ _ S3 ?_;clear hK kQ;refine qn ?_;refine an (i:=14) zk rfl (fun kQ hK=> ?_);go_simp;refine hK _ _ S3 ?_;clear hK kQ;refine wpAnyH_done zk ?_ _;refine qn ?_;clear S3 S2 aa;go_wp2;(try simp only [Exit.inBlock,Exit.then]);refine bodyPost_ret (v:=.tuple #[.agg (qOa t' b' m' kd' nd' o' s' v'),er]) ?_ rfl ⟨(t',b',m',kd',nd',o',s',v'),cd,by rw [<-gc.o.1];rfl,?_,iN.o _ H2.o.2⟩
  ·exact kc3
  exact kd6
 have d4:((kd:Int)==115)=false:=zl;have iN:Aside (Fr (lY R) T i (R i).length (t,b,m,kd,nd,o,s,v) (lQ,5)):=.inr ⟨k1,k2,k3,k4,rfl⟩;clear k1 k2 k3 k4;obtain ⟨V,hV⟩:=ze U.drew
 have HB:Aside (qL w V):=by rw [hV.o];exact H0.o.2.2.1
 have Z1:m6 V (S+1) lQ:=by rw [hV.o];exact H0.o.2.1
 have SV0:U.drew.cell? (qB 4)=some (.iface 437 (.pointer (some (ad 4)))):=ek
 have SV:V.cell? (qB 4)=some (.iface 437 (.pointer (some (ad 4)))):=by rw [hV.o];exact ek
 have SW:(V.setCells (S+1) 0 qZl).cell? (qB 4)=some (.iface 437 (.pointer (some (ad 4)))):=(uV (a:=(qB 4)) (mR (S+1) _ 0 V 4 (by have:=HLOW.o;omega))).trans SV;clear y0 y1 y2 y3 y4 y5 y6 y7 yf p0;obtain ⟨y0,y1,y2,y3,y4,y5,y6,y7,yf⟩:=m6.ct Z1;clear Z1 ek;go_upto_region 12 with fail;refine lV (S:=(fun w'=>w'.cell? (qB 4)=some (.iface 437 (.pointer (some (ad 4)))))) zk SV0 (fun aa=> ?_);rw [<-hV.o];clear aa;have aa:=SV;refine tk 0 aa ?_ (y:=ty zm);refine tk 1 aa ?_ (y:=ty xJ);refine an (i:=2) zk rfl (fun kQ hK=> ?_);go_simp;refine hK _ _ SW ?_;clear hK kQ;refine qn ?_;refine an (i:=3) zk rfl (fun kQ hK=> ?_);go_simp;refine hK _ _ SW ?_;clear hK kQ;refine wpAnyH_done zk ?_ _;refine qn ?_;clear SW SV SV0 aa;go_wp2;(try simp only [Exit.inBlock,Exit.then]);refine bodyPost_ret (v:=.tuple #[.agg qZa,.iface 437 (.pointer (some (ad 4)))]) ?_ rfl ⟨lQ,5,rfl,?_,iN.o⟩
 ·exact kc3
 exact mV (b:=S+1) HB.o yV 0 qZl
def PV(G:qX)(K K':qH)(st:qD)(N N':qJ)(p8:Int)(v:Value):Prop:=(¬(0<=p8/\p8<(N.length:Int))/\N'=N/\K'=K)\/∃(k:Nat) (x:nO),p8=(k:Int)/\N[k]? =some x/\((x.2.2.1=true/\v= .nilIface/\K'=K/\∃F,rC (K x.2.1) x.2.2.2.1 F/\(((F= []\/30<=(N.eraseIdx k).length)/\N'=N.eraseIdx k)\/(F≠ []/\(N.eraseIdx k).length<30/\∃ao cap,N'=N.eraseIdx k++ [(x.2.1,x.1,false,fun _=>0,ao,cap,F)])))\/(x.2.2.1=false/\N'=N.eraseIdx k/\Wn G K K' x.2.1 (IG x)/\(zau G (lY (K x.2.1)) (IG x)->(st x.2.1).2.1=false->(st x.2.1).2.2.1=false->v= .nilIface)))
def zeo(ad:qF)(K K':qH)(st st':qD)(N:qJ)(p8:Int)(v:Value):Prop:=(¬(0<=p8/\p8<(N.length:Int))->v=eV ad 6/\st'=st)/\∀(k:Nat) (x:nO),p8=(k:Int)->N[k]? =some x->x.2.2.1=false->SL ad K K' st st' x.2.1 (IG x) v
def Lm(gd:Nat->Option Obj)(B n bm i:Nat)(ad:qF)(G:qX)(K:qH)(st:qD)(N:qJ)(p8:Int)(w:qW)(e:Ending)(w':qW):Prop:=∃(v:Value) (K':qH) (D':Nat->List OpX) (st':qD) (N':qJ),e= .returned v/\Aside (p9 gd B n bm K' st' N' w'/\Below B w w'/\r9 n i G K' D' st' N'/\N'.length<=30/\PV G K K' st N N' p8 v/\((∃(k:Nat) (x:nO),p8=(k:Int)/\N[k]? =some x/\x.2.2.1=true)->st'=st))/\Aside (zeo ad K K' st st' N p8 v)
theorem LI{R}{u}{F}(h:rC R u F)(hR:t7 R):F.Nodup/\∀x∈F,x∈lY R:=by
 obtain ⟨ys,h1,rfl⟩:=h;obtain ⟨hp,_⟩:=nA h1;exact ⟨((hp.nodup_iff).2 hR.num.I7).sublist List.filter_sublist,fun x hx=>hp.mem_iff.1 (Yo.1 hx).1⟩
theorem Cs{gd}{B}{ad}{n bm}{K}{st}{N}{i}{G}{D}(w)(p8)(h:p9 gd B n bm K st N w)(hI:r9 n i G K D st N)(hN:N.length<=30)(hE:E7 B ad w)(hi:i<=155)(ho:(-9223372036854775808<=p8/\p8<=9223372036854775807)):
  qC 41 #[qP bm,qI p8] w (Lm gd B n bm i ad G K st N p8 w):=by
 obtain ⟨ow,pv,fv,bp,br,d,dv,c,hm⟩:=h;have ht:=LQ w p8 hm hE hN ho
 have HM:Aside (n9 gd B w ow n bm pv fv bp br d dv c K st N/\E7 B ad w/\r9 n i G K D st N):=⟨hm,hE,hI⟩
 go_enter func41,ntmps41;go_wp2_with fail;refine ht.mono ?_;rintro e w1 (⟨q,rfl,HB⟩ | ⟨k,⟨x1,x2,x3,x4,x5,x6,x7⟩,rfl,hk,rfl,HT⟩)
 ·have HQ:Aside (¬(0<=p8/\p8<(N.length:Int))):=q;rw [mL (show (6:Nat)≠0 by omega)];go_wp2;go_ret;have hb:qL w (w1.alloc (.cells #[qI 0,qI 0,.bool false,qI 0,qI 0,qI 0,qI 0,qE] 149)):=HB.o.alloc HB.o.size _;exact ⟨_,K,D,st,N,rfl,⟨⟨_,_,_,_,_,_,_,_,HM.o.1.later hb⟩,hb.mono HM.o.1.l9,HM.o.2.2,hN,.inl ⟨HQ.o,rfl,rfl⟩,fun _=>rfl⟩,fun _=>⟨(mL (show (6:Nat)≠0 by omega)).symm,rfl⟩,fun k' x' e1 e2 _=>absurd ⟨zj,by have:=(uK.1 e2).1;omega⟩ HQ.o⟩
 obtain ⟨x,b6⟩:∃x:nO,Aside (x=(x1,x2,x3,x4,x5,x6,x7)):=⟨_,rfl⟩
 obtain ⟨hxk,ow1,fv1,hm1,kk,hb1⟩:=HT.o;have hxI:=HM.o.2.2.B8 _ (uR hxk);obtain ⟨P,hP⟩:=ze w1.heap.size;obtain ⟨V,hV⟩:=ze (w1.alloc (.cells #[qN x1,qN x2,.bool x3,qI (x4 0),qI (x4 1),qI (x4 2),qI (x4 3),.slice x5 x7.length x6] 149))
 have ai:qL w1 V:=by rw [hV.o];exact zh w1 _
 have lO:=hm1.later ai
 have XV:GB V P x:=by rw [hV.o,hP.o,b6.o];exact GB.GA w1 (x1,x2,x3,x4,x5,x6,x7)
 have gW:x2<n:=kk.to_;have hfr:x1<n:=kk.S8;have hel:(N.eraseIdx k).length<=30:=uu;have hIe:r9 n i G K D st (N.eraseIdx k):=HM.o.2.2.L8 (fun y hy=>.inl (ZN hy));obtain ⟨po,pc,eD⟩:=mC lO.K9
 have hcell:∃g,po=some (qB g)/\V.cell? (qA g x2)=some (qP (bp x2)):=by
  have hp:=lO.K9
  rcases hp.2 with ⟨_,q⟩ | ⟨g,cap,cur,q,_⟩
  ·omega
  rw [eD] at q
  cases q
  refine ⟨g,rfl,?_⟩;rw [eD] at hp;rw [hp.cellAt x2 zj,CM bp gW]
 obtain ⟨pg,rfl,hpc⟩:=hcell;subst eD;have hmD:=lO.later (uO _ V).drew
 have HV:Aside (n9 gd B V.drew ow1 n bm (qG pg n pc) fv1 bp br d dv c K st (N.eraseIdx k)/\GB V.drew P x/\Below B w V.drew/\P7 V.drew ow1 n x/\((∀y∈x7,y∈G)/\x7.length<=i)/\r9 n i G K D st (N.eraseIdx k)/\x1<n/\N[k]? =some (x1,x2,x3,x4,x5,x6,x7)/\E7 B ad V.drew):=⟨hmD,XV,(hb1.trans (ai.mono hm1.l9)).drew,by rw [b6.o];exact (kk.later ai).later (uO _ V).drew,hxI,hIe,hfr,hxk,HM.o.2.1.mono ((hb1.trans (ai.mono hm1.l9)).drew)⟩
 have SD:G7 V.drew bm (qG pg n pc) fv1/\V.drew.cell? (qA pg x2)=some (qP (bp x2))/\GB V.drew P x:=⟨hmD.D8,hpc,XV⟩
 have wk:((x2:Int)).toNat=x2:=zj;have pk:(0:Int)<=(x2:Int):=zj;have bk:(x2:Int)<(n:Int):=zj;unfold Ws At;dsimp only;go_upto_region 4 with fail;rw [<-hV.o,<-hP.o];refine lV (S:=(fun w'=>G7 w' bm (qG pg n pc) fv1/\w'.cell? (qA pg x2)=some (qP (bp x2))/\GB w' P x)) zk SD (fun aa=> ?_);refine tk 0 aa ?_ (y:=ty zm);refine tk 1 aa ?_ (y:=ty zm);refine tk 2 aa ?_ (y:=ty zm);refine tk 3 aa ?_ (y:=ty zI);refine tk 4 aa ?_ (y:=ty zm);refine tk 5 aa ?_ (y:=ty (by intro w' ab;have q9:=ab.2.2;rw [b6.o] at q9;obtain ⟨q0,q1,q2,q3,q4,q5,q6,q7,-⟩:=GB.cells q9;unfold At at q7;dsimp only at q0 q1 q2 q3 q4 q5 q6 q7;clear q9;clear ab;go_simp;try with_reducible rfl));refine tk 6 aa ?_ (y:=ty zm);refine tk 7 aa ?_ (y:=ty (by intro w' ab;have q1:=ab.2.1;clear ab;go_simp;try with_reducible rfl));refine an (i:=8) zk rfl (fun kQ hK=> ?_);go_simp;refine hK _ _ SD ?_;refine wpAnyH_done zk ?_ _;refine qn ?_;obtain ⟨Y,hY⟩:=ze V.drew;rw [<-hY.o] at HV;rw [<-hY.o];have XY:=HV.o.2.1;rw [b6.o] at XY;obtain ⟨q0,q1,q2,q3,q4,q5,q6,q7,-⟩:=XY.cells;unfold At at q7;dsimp only at q0 q1 q2 q3 q4 q5 q6 q7
 cases x3 with
 | false=>
  have eF:F2 Y x5 x7:=by
   have:=HV.o.2.2.2.1.ops;rw [b6.o] at this;exact Wh this
  have fu:=NQ Y x2 x5 x6 x7 HV.o.1 HV.o.2.2.2.2.2.1 HV.o.2.2.2.2.2.2.2.2 gW hi eF HV.o.2.2.2.2.1.1 (by have:=HV.o.2.2.2.2.1.2;omega);go_wp2_with fail;refine fu.mono ?_;rintro e w5 ⟨v5,K',D',st',rfl,H5⟩;go_wp2;go_ret
  exact ⟨_,K',D',st',N.eraseIdx k,rfl,⟨H5.o.1,HV.o.2.2.1.trans H5.o.2.1,H5.o.2.2.1,hel,.inr ⟨k,_,rfl,HV.o.2.2.2.2.2.2.2.1,.inr ⟨rfl,rfl,H5.o.2.2.2.1,H5.o.2.2.2.2.1⟩⟩,fun ⟨k',x',e1,e2,e3⟩=>by
   obtain rfl:k=k':=zj
   rw [HV.o.2.2.2.2.2.2.2.1] at e2
   cases e2
   cases e3⟩,fun q=>absurd ⟨zj,zj⟩ q,fun k' x' e1 e2 _=>by
   obtain rfl:k=k':=zj
   rw [HV.o.2.2.2.2.2.2.2.1] at e2
   cases e2
   exact H5.o.2.2.2.2.2⟩
 | true=>
  have hmY:=HV.o.1.later (uO _ Y).drew;have hdf:=Gx Y.drew (c x2) (br x2) (x2:Int) (K x2) x4 (hmY.G4 x2 gW).1.G4 (by have:=HV.o.2.2.2.2.2.1.y9 gW;omega)
  have SD:u7 Y.drew (bp x2) (br x2) (d x2)/\GB Y.drew P x:=⟨(hmY.G0 x2 gW).1,HV.o.2.1⟩
  have HY:Aside (n9 gd B Y.drew ow1 n bm (qG pg n pc) fv1 bp br d dv c K st (N.eraseIdx k)):=hmY;go_upto_region 7 with fail;refine lV (S:=(fun w'=>u7 w' (bp x2) (br x2) (d x2)/\GB w' P x)) zk SD (fun aa=> ?_);refine tk 0 aa ?_ (y:=ty zm);refine tk 1 aa ?_ (y:=ty zm);refine tk 2 aa ?_ (y:=ty zm);refine tk 3 aa ?_ (y:=ty zI);refine tk 4 aa ?_ (y:=ty zm);refine tk 5 aa ?_ (y:=ty (by intro w' ab;have q9:=ab.2;rw [b6.o] at q9;obtain ⟨q0,q1,q2,q3,q4,q5,q6,q7,-⟩:=GB.cells q9;unfold At at q7;dsimp only at q0 q1 q2 q3 q4 q5 q6 q7;clear q9;clear ab;go_simp;try with_reducible rfl));refine an (i:=6) zk rfl (fun kQ hK=> ?_);go_simp;refine hdf.mono ?_;rintro e w3 ⟨ao,cap,F,rfl,H3⟩
  have S3:u7 w3 (bp x2) (br x2) (d x2)/\GB w3 P x:=⟨SD.1.same (H3.o.2.2.2.block _ SD.1.lt),SD.2.later H3.o.2.2.2⟩
  refine hK _ _ S3 ?_;refine qn ?_;refine an (i:=7) zk rfl (fun kQ hK=> ?_);go_simp;refine hK _ _ S3 ?_;refine wpAnyH_done zk ?_ _;refine qn ?_;have hFl:=LI H3.o.1 (HV.o.2.2.2.2.2.1.D6 x2 gW);have hFi:=uQ (oS hFl.1 (fun y hy=>HV.o.2.2.2.2.2.1.G9.sub x2 gW y (hFl.2 y hy))) HV.o.2.2.2.2.2.1.G9.y9;have hb3:=HV.o.2.2.1.trans (((uO _ Y).drew.mono HV.o.1.l9).trans (H3.o.2.2.2.mono HY.o.l9));have X3:=S3.2;rw [b6.o] at X3;obtain ⟨q0,q1,-,q3,q4,q5,q6,q7,-⟩:=X3.cells;dsimp only at q0 q1;by_cases hF:F= []
  ·have hF0:F.length=0:=by rw [hF];rfl
   have d0:qlt 0 F.length=false:=by rw [hF0];rfl
   have d0n:decide (0<F.length)=false:=by rw [hF0];rfl
   have HF:Aside (rC (K x2) x4 F/\F= []):=⟨H3.o.1,hF⟩
   have cA:=HY.o.later H3.o.2.2.2
   have HM3:Aside (p9 gd B n bm K st (N.eraseIdx k) w3/\Below B w w3):=⟨⟨_,_,_,_,_,_,_,_,cA⟩,hb3⟩
   go_wp2;go_ret
   exact ⟨_,K,D,st,N.eraseIdx k,rfl,⟨HM3.o.1,HM3.o.2,HV.o.2.2.2.2.2.1,hel,.inr ⟨k,_,rfl,HV.o.2.2.2.2.2.2.2.1,.inl ⟨rfl,rfl,rfl,F,HF.o.1,.inl ⟨.inl HF.o.2,rfl⟩⟩⟩,fun _=>rfl⟩,fun q=>absurd ⟨zj,zj⟩ q,fun k' x' e1 e2 e3=>by
    obtain rfl:k=k':=zj
    rw [HV.o.2.2.2.2.2.2.2.1] at e2
    cases e2
    cases e3⟩
  have hFp:=YI.2 hF;have d0:qlt 0 F.length=true:=zl;have d0n:decide (0<F.length)=true:=zl;obtain ⟨cA,aZ⟩:=HY.o.acO H3.o.2.2.2;have fO:=Er w3 (x2,x1,false,fun _=>0,ao,cap,F) cA (HV.o.2.2.2.2.2.2.2.2.mono (((uO _ Y).drew.mono HV.o.1.l9).trans (H3.o.2.2.2.mono HY.o.l9))) ⟨gW,HV.o.2.2.2.2.2.2.1,H3.o.2.1,fun g hg=>aZ g (H3.o.2.2.1 hF g hg).1 (H3.o.2.2.1 hF g hg).2⟩;unfold Ws At at fO;dsimp only at fO
  have HF:Aside (rC (K x2) x4 F/\F≠ []/\(∀y∈F,y∈G)/\Below B w w3/\F.length<=i):=⟨H3.o.1,hF,fun y hy=>HV.o.2.2.2.2.2.1.G9.sub x2 gW y (hFl.2 y hy),hb3,hFi⟩
  have HM3:Aside (p9 gd B n bm K st (N.eraseIdx k) w3/\B<=w3.heap.size):=⟨⟨_,_,_,_,_,_,_,_,cA⟩,cA.l9⟩
  go_wp2_with fail;refine fO.mono ?_;rintro e w4 (⟨h30,rfl,HB⟩ | ⟨h30,rfl,HB⟩)
  ·rw [mL (show (8:Nat)≠0 by omega)];go_wp2;go_ret;obtain ⟨_,_,_,_,_,_,_,_,cA⟩:=HM3.o.1
   exact ⟨_,K,D,st,N.eraseIdx k,rfl,⟨⟨_,_,_,_,_,_,_,_,cA.later HB.o⟩,HF.o.2.2.2.1.trans (HB.o.mono HM3.o.2),HV.o.2.2.2.2.2.1,hel,.inr ⟨k,_,rfl,HV.o.2.2.2.2.2.2.2.1,.inl ⟨rfl,rfl,rfl,F,HF.o.1,.inl ⟨.inr h30,rfl⟩⟩⟩,fun _=>rfl⟩,fun q=>absurd ⟨zj,zj⟩ q,fun k' x' e1 e2 e3=>by
    obtain rfl:k=k':=zj
    rw [HV.o.2.2.2.2.2.2.2.1] at e2
    cases e2
    cases e3⟩
  go_wp2;go_ret;obtain ⟨fv',ow',hm',hb'⟩:=HB.o
  refine ⟨_,K,D,st,_,rfl,⟨⟨_,_,_,_,_,_,_,_,hm'⟩,HF.o.2.2.2.1.trans hb',HV.o.2.2.2.2.2.1.L8 (fun y hy=> ?_),by rw [uS];simp;omega,.inr ⟨k,_,rfl,HV.o.2.2.2.2.2.2.2.1,.inl ⟨rfl,rfl,rfl,F,HF.o.1,.inr ⟨HF.o.2.1,h30,ao,cap,rfl⟩⟩⟩,fun _=>rfl⟩,fun q=>absurd ⟨zj,zj⟩ q,fun k' x' e1 e2 e3=>by
   obtain rfl:k=k':=zj
   rw [HV.o.2.2.2.2.2.2.2.1] at e2
   cases e2
   cases e3⟩
  rcases uU.1 hy with p | p
  ·exact .inl p
  rw [Zc.1 p];exact .inr ⟨HF.o.2.2.1,HF.o.2.2.2.2⟩
end
section
open RowKit Lib
open scoped Classical
def nN(K:qH)(a m:Nat):List nO:=((List.range m).filter (fun b=>decide (b≠a))).map (fun b=>DL a b (oW (K a)))
def mK(K:qH)(n m:Nat):List nO:=(List.range m).flatMap (fun a=>nN K a n)
theorem GM(K)(a):nN K a (a+1)=nN K a a:=by
 unfold nN;rw [Yt,Yc];simp
theorem Hy(K){a m}(h:a≠m):nN K a (m+1)=nN K a m++ [DL a m (oW (K a))]:=by
 unfold nN;rw [Yt,Yc,Zz]
 grind
theorem Ag(K)(n m):mK K n (m+1)=mK K n m++nN K m n:=by
 unfold mK;rw [Yt,List.flatMap_append];simp
theorem CZ(K)(a m):(nN K a m).length<=m:=by
 grind [nN,Zj,uQ,Yi]
theorem tJ(K)(n):∀m,(mK K n m).length<=m*n
 | 0=>by simp [mK]
 | m+1=>by
  rw [Ag,uS];have h1:=tJ K n m
  grind [CZ,YG]
theorem mem_asks{K}{n m}{x} :x∈mK K n m↔∃a b,a<m/\b<n/\a≠b/\x=DL a b (oW (K a)):=by
 unfold mK nN;simp only [List.mem_flatMap,List.mem_range,Zm,Yo]
 grind
def left:List nO->Nat
 | []=>0
 | x::t=>(if x.2.2.1=true then 2 else 1)+left t
theorem CH:∀(a b:qJ),left (a++b)=left a+left b
 | [],b=>by simp [left]
 | x::a,b=>by
  show _+left (a++b)=_+left a+left b
  rw [CH a b];omega
structure Rnd (n:Nat) (G:qX) (K0 K:qH) (N:qJ):Prop where
 parts:∃A C,N=A++C/\(A≠ []->K=K0)/\(∀x∈A,∃a b,a<n/\b<n/\a≠b/\x=DL a b (oW (K0 a)))/\∀x∈C,x.2.2.1=false/\x.1<n/\x.2.1<n/\rC (K0 x.1) (oW (K0 x.2.1)) (IG x)
 ab5:N.length<=16
 aaB:∀r,r<n->∀x∈lY (K0 r),x∈lY (K r)
 told:∀a b,a<n->b<n->a≠b->DL a b (oW (K0 a))∈N\/(∃x∈N,x.2.2.1=false/\x.1=b/\x.2.1=a)\/∀y∈lY (K0 b),y∈lY (K a)
theorem Rnd.start{n}{G}{K}(hn:n<=4):Rnd n G K K (mK K n n):=by
 refine ⟨⟨mK K n n,[],zq,fun _=>rfl,fun x hx=>mem_asks.1 hx,fun x hx=>ya⟩,?_,fun r _ x hx=>hx,fun a b ha hb hne=>.inl (mem_asks.2 ⟨a,b,ha,hb,hne,rfl⟩)⟩;have:=tJ K n n;have:=Nat.mul_le_mul hn hn;omega
theorem Rnd.next{n i}{G}{K0 K K'}{D0}{st0 st}{N N' N0}{v}(h:Rnd n G K0 K N)(h0:r9 n i G K0 D0 st0 N0)(hne:N≠ [])(hd:PV G K K' st N N' 0 v)(hN':N'.length<=30):Rnd n G K0 K' N'/\left N'<left N:=by
 obtain ⟨A,C,rfl,hA0,hA,hC⟩:=h.parts
 rcases hd with ⟨q,_⟩ | ⟨k,x,hk,hx,hd⟩
 ·exfalso;apply q;have:=YI.2 hne;omega
 obtain rfl:k=0:=zj;have hl:=h.ab5
 rcases hd with ⟨gA,_,rfl,F,hF,hN⟩ | ⟨gA,rfl,hH,_⟩
 ·
  cases A with
  | nil=>
   grind
  | cons y A'=>
   have hyx:y=x:=by simpa using hx
   subst hyx;obtain ⟨a,b,ha,hb,hab,rfl⟩:=hA _ Zq;have hK:=hA0 zq;have he:(DL a b (oW (K0 a))::A'++C).eraseIdx 0=A'++C:=rfl;rw [he] at hN
   have hF':rC (K0 b) (oW (K0 a)) F:=by have q:=hF;rw [hK] at q;exact q
   rcases hN with ⟨hno,rfl⟩ | ⟨_,_,ao,cap,rfl⟩
   ·refine ⟨⟨⟨A',C,rfl,fun _=>hK,fun x hx=>hA x (Za _ hx),hC⟩,uw,h.aaB,fun a' b' ha' hb' ii=> ?_⟩,?_⟩
    ·rcases h.told a' b' ha' hb' ii with q | q | q
     ·rcases uZ.1 (show DL a' b' (oW (K0 a'))∈DL a b (oW (K0 a))::(A'++C) from q) with e | q
      ·have e1:a'=a:=by have:=congrArg (·.1) e;exact this
       have e2:b'=b:=by have:=congrArg (·.2.1) e;exact this
       subst e1;subst e2;right;right;intro y hy
       rcases hno with hF0 | h30
       ·obtain ⟨ys,y1,y2⟩:=hF';have hd:=Eu (h0.D6 a' ha') (h0.D6 b' hb') (h0.G9.aa1 (fun z hz=>h0.G9.sub a' ha' z hz) (fun z hz=>h0.G9.sub b' hb' z hz)) y1;rw [<-y2,hF0] at hd;rw [hK];by_cases hm:y∈lY (K0 a')
        ·exact hm
        have:=(hd.2.2 y).2 ⟨hy,hm⟩;simp at this
       simp at hl h30;omega
      exact .inl q
     ·obtain ⟨z,hz,z1,z2⟩:=q
      rcases uZ.1 (show z∈DL a b (oW (K0 a))::(A'++C) from hz) with e | hz
      ·rw [e] at z1
       cases z1
      exact .inr (.inl ⟨z,hz,z1,z2⟩)
     exact .inr (.inr q)
    simp_all [left,DL,oW,if_pos]
   refine ⟨⟨⟨A',C++ [(b,a,false,fun _=>0,ao,cap,F)],by rw [Zr];rfl,fun _=>hK,fun x hx=>hA x (Za _ hx),fun x hx=> ?_⟩,uw,h.aaB,fun a' b' ha' hb' ii=> ?_⟩,?_⟩
   ·grind
   ·rcases h.told a' b' ha' hb' ii with q | q | q
    ·rcases uZ.1 (show DL a' b' (oW (K0 a'))∈DL a b (oW (K0 a))::(A'++C) from q) with e | q
     ·have e1:a'=a:=by have:=congrArg (·.1) e;exact this
      have e2:b'=b:=by have:=congrArg (·.2.1) e;exact this
      subst e1;subst e2;exact .inr (.inl ⟨_,ZD _ (Zc.2 rfl),rfl,rfl,rfl⟩)
     exact .inl (Zo _ q)
    ·obtain ⟨z,hz,z1,z2⟩:=q
     rcases uZ.1 (show z∈DL a b (oW (K0 a))::(A'++C) from hz) with e | hz
     ·rw [e] at z1
      cases z1
     exact .inr (.inl ⟨z,Zo _ hz,z1,z2⟩)
    simp_all
   rw [CH]
   show left (A'++C)+left [((b,a,false,fun _=>0,ao,cap,F):nO)]<(if (DL a b (oW (K0 a))).2.2.1=true then 2 else 1)+left (A'++C)
   rw [if_pos (show (DL a b (oW (K0 a))).2.2.1=true from rfl)]
   have:left [((b,a,false,fun _=>0,ao,cap,F):nO)]=1:=by simp [left]
   omega
 ·
  cases A with
  | cons y A'=>
   exfalso
   have:y=x:=by simpa using hx
   subst this;obtain ⟨a,b,_,_,_,rfl⟩:=hA _ Zq
   cases gA
  | nil=>
   cases C with
   | nil=>exact absurd rfl hne
   | cons y C'=>
    have:y=x:=by simpa using hx
    subst this;obtain ⟨c1,hb,ha,hF⟩:=hC y zq;have he:(([]:qJ)++y::C').eraseIdx 0=C':=rfl;rw [he];obtain ⟨hr,hg,dy,jC⟩:=hH
    have kD:zau G (lY (K y.2.1)) (IG y):=by
     obtain ⟨ys,y1,y2⟩:=hF;have hd:=Eu (h0.D6 _ ha) (h0.D6 _ hb) (h0.G9.aa1 (fun z hz=>h0.G9.sub _ ha z hz) (fun z hz=>h0.G9.sub _ hb z hz)) y1;rw [<-y2] at hd;refine ⟨lY (K0 y.1),(h0.D6 _ hb).G5,fun z hz=>h0.G9.sub _ hb z hz,fun z hz=>((hd.2.2 z).1 hz).1,fun z hz=> ?_⟩;by_cases hm:z∈lY (K0 y.2.1)
     ·exact .inl (h.aaB _ ha z hm)
     exact .inr ((hd.2.2 z).2 ⟨hz,hm⟩)
    have hnew:=jC kD
    have ij:∀r,∀z∈lY (K r),z∈lY (K' r):=fun r z hz=>by
     by_cases e:r=y.2.1
     ·rw [e] at hz |-;exact hg z hz
     rw [hr r e];exact hz
    refine ⟨⟨⟨[],C',rfl,fun q=>absurd rfl q,fun x hx=>ya,fun x hx=>hC x (Za _ hx)⟩,uw,fun r hr' z hz=>ij r z (h.aaB r hr' z hz),fun a' b' ha' hb' ii=> ?_⟩,?_⟩
    ·rcases h.told a' b' ha' hb' ii with q | q | q
     ·rcases uZ.1 (show DL a' b' (oW (K0 a'))∈y::C' from q) with e | q
      ·rw [<-e] at c1
       cases c1
      exact .inl q
     ·obtain ⟨z,hz,z1,z2,z3⟩:=q
      rcases uZ.1 (show z∈y::C' from hz) with e | hz
      ·subst e;right;right;intro u hu;subst z2;subst z3;obtain ⟨T,t1,t2,t3,t4⟩:=kD;obtain ⟨ys,y1,y2⟩:=hF;have hd:=Eu (h0.D6 _ ha) (h0.D6 _ hb) (h0.G9.aa1 (fun z hz=>h0.G9.sub _ ha z hz) (fun z hz=>h0.G9.sub _ hb z hz)) y1;rw [<-y2] at hd;by_cases hm:u∈lY (K0 z.2.1)
       ·exact ij _ u (h.aaB _ ha u hm)
       exact hnew u ((hd.2.2 u).2 ⟨hu,hm⟩)
      exact .inr (.inl ⟨z,hz,z1,z2,z3⟩)
     exact .inr (.inr (fun u hu=>ij _ u (q u hu)))
    grind [left]
theorem Rnd.done{n i}{G}{K0 K}{D0}{st0}{N0}(h:Rnd n G K0 K [])(h0:r9 n i G K0 D0 st0 N0):∀r,r<n->∀x∈G,x∈lY (K r):=fun r hr x hx=>by
 obtain ⟨b,hb,_,hD⟩:=h0.G9.L4 x hx;have hS:=h0.G9.x8 b hb x hD;by_cases e:r=b
 ·subst e;exact h.aaB r hr x hS
 rcases h.told r b hr hb e with q | ⟨z,hz,_⟩ | q
 ·simp at q
 ·simp at hz
 exact q x hS
end
section
open RowKit Lib Go.Sort Maps
open scoped Classical
theorem JY{S l}{ix}{cd}(h:ny S l (.inl (ix,cd))):1<=cd/\cd<=11/\(ix= -1\/0<=ix):=by
 have gY:∀(l:qX) (i:Nat) (F:qX) (a:Nat×Nat),nh S i F l= .inl a->1<=a.2/\a.2<=11:=by
  intro l
  induction l with
  | nil=>intro i F a ha;cases ha
  | cons o t ih=>
   intro i F a ha;by_cases he:mz o=0
   ·cases hl:nP (S++F) (byO o) (mB o) with
    | none=>rw [Bl he hl] at ha;exact ih _ _ _ ha
    | some x=>
     by_cases hx:x=o
     ·subst hx;rw [sW he hl] at ha;exact ih _ _ _ ha
     rw [sC he hl hx] at ha
     cases ha
     exact ⟨by show 1<=7;decide,by show 7<=11;decide⟩
   rw [Es he] at ha
   cases ha
   have:=PZ o;exact ⟨by show 1<=mz o;omega,by show mz o<=11;omega⟩
 grind [ny,nh]
def LZ(K K':qH)(st st':qD)(a:Nat)(l:qX)(cd:Nat):Prop:=(∃ix,ny (lY (K a)) l (.inl (ix,cd))/\K'=K/\st'=st)\/(∃fresh R' F,ny (lY (K a)) l (.inr fresh)/\K'=lR K a R'/\t7 R'/\(∀x,x∈lY R'↔x∈lY (K a)\/x∈l)/\rC R' (oW (K a)) F/\cd=(ol (st a) F).1/\st'=lR st a (ol (st a) F).2)
theorem Pg(s)(x):(pJ s x).1<=11:=by
 unfold pJ;split
 ·show wR x<=11
  exact uQ (show wR x<=5 from PZ x) zj
 grind
theorem Gj:∀(F:qX) (s:DSt),(ol s F).1<=11
 | [],s=>by show 0<=11;omega
 | y::ys,s=>by
  show (if (pJ s y).1=0 then ol (pJ s y).2 ys else pJ s y).1<=11
  split
  ·exact Gj ys _
  exact Pg s y
theorem XF{ad}{K K'}{st st'}{a}{l}{v}(h:SL ad K K' st st' a l v):∃cd,v=eV ad cd/\cd<=11/\LZ K K' st st' a l cd:=by
 rcases h with ⟨ix,cd,h1,h2,h3,h4,h5⟩ | ⟨fresh,R',F,h1,h2,h3,h4,h5,h6,h7⟩
 ·exact ⟨cd,h3,(JY h1).2.1,.inl ⟨ix,h1,h4,h5⟩⟩
 exact ⟨_,h6,Gj F _,.inr ⟨fresh,R',F,h1,h2,h3,h4,h5,rfl,h7⟩⟩
def zdw(K:qH)(st:qD)(N:qJ)(r s:Nat)(K':qH)(st':qD)(N':qJ)(cd:Nat):Prop:=K'=K/\st'=st/\((N.length<30/\cd=0/\N'=N++ [DL r s (oW (K r))])\/(30<=N.length/\cd=8/\N'=N))
def zdu(K:qH)(st:qD)(N:qJ)(m:Nat)(K':qH)(st':qD)(N':qJ)(cd:Nat):Prop:=K'=K/\st'=st/\((N.length<=m/\cd=6/\N'=N)\/(m<N.length/\cd=0/\N'=N.eraseIdx m))
def zdr(K:qH)(st:qD)(N:qJ)(m:Nat)(K':qH)(st':qD)(N':qJ)(cd:Nat):Prop:=K'=K/\st'=st/\((N.length<=m/\cd=6/\N'=N)\/∃x,N[m]? =some x/\((N.length<30/\cd=0/\N'=N++ [x])\/(30<=N.length/\cd=8/\N'=N)))
def Wl(K:qH)(st:qD)(N:qJ)(m:Nat)(K':qH)(st':qD)(N':qJ)(cd:Nat):Prop:=(N.length<=m/\cd=6/\K'=K/\st'=st/\N'=N)\/∃x:nO,N[m]? =some x/\((x.2.2.1=true/\cd=0/\K'=K/\st'=st/\∃F,rC (K x.2.1) x.2.2.2.1 F/\(((F= []\/30<=(N.eraseIdx m).length)/\N'=N.eraseIdx m)\/(F≠ []/\(N.eraseIdx m).length<30/\∃ao cap,N'=N.eraseIdx m++ [(x.2.1,x.1,false,fun _=>0,ao,cap,F)])))\/(x.2.2.1=false/\N'=N.eraseIdx m/\LZ K K' st st' x.2.1 (IG x) cd))
theorem zcA{ad}{G}{K K'}{st st'}{N N'}{m:Nat}{v}(h:PV G K K' st N N' (m:Int) v)(h2:(∃(k:Nat) (x:nO),(m:Int)=(k:Int)/\N[k]? =some x/\x.2.2.1=true)->st'=st)(h3:zeo ad K K' st st' N (m:Int) v):∃cd,v=eV ad cd/\cd<=11/\Wl K st N m K' st' N' cd:=by
 rcases h with ⟨q,e1,e2⟩ | ⟨k,x,e,hx,h⟩
 ·obtain ⟨v1,s1⟩:=h3.1 q;exact ⟨6,v1,zj,.inl ⟨zj,rfl,e2,s1,e1⟩⟩
 obtain rfl:m=k:=zj
 rcases h with ⟨ha,hv,hK,F,hF,hN⟩ | ⟨ha,hN,_,_⟩
 ·exact ⟨0,hv,zj,.inr ⟨x,hx,.inl ⟨ha,rfl,hK,h2 ⟨m,x,rfl,hx,ha⟩,F,hF,hN⟩⟩⟩
 obtain ⟨cd,hv,hc,hy⟩:=XF (h3.2 m x rfl hx ha);exact ⟨cd,hv,hc,.inr ⟨x,hx,.inr ⟨ha,hN,hy⟩⟩⟩
theorem zdd{A}{T}{i n}{x}{a}(h:Fr A T i n x a):a.2<=11:=by
 rcases h with ⟨_,h⟩ | ⟨_,_,_,_,h⟩
 ·exact zat h
 simp_all
theorem XL{A}{T}{i n}{x}{a}(h:Fr A T i n x a)(hc:a.2≠0):a.1=lQ:=by
 rcases h with ⟨_,h⟩ | ⟨_,_,_,_,h⟩
 ·exact RE h hc
 rw [h]
theorem Xb{R}(hR:t7 R){T}{i}{x y}(h:Fr (lY R) T i (R i).length x (y,0)):U0 R i T y:=by
 rcases h with ⟨_,h⟩ | ⟨_,_,_,_,h⟩
 ·exact Qf hR h
 cases h
theorem zcN{B}{ad}(w)(c)(p br d)(i:Nat)(R)(x)(hP:u7 w p br d)(h:C8 B w c br (i:Int) R)(hE:E7 B ad w)(hi:i<4)(hn:(lY R).length<=250)(hx:zdU x):
  qC 152 #[qP p,mH x] w (Tt ad w R i (fun y cd=>∃T,oA (lY R) T/\Fr (lY R) T i (R i).length x (y,cd))):=by
 obtain ⟨T,kv,bt,bx,bc,A,hm',hp,ht⟩:=h.G4.time
 refine (Vk w c p br d i R x hP h hE.t hE.cyc hi T ht (Om h.h.G5.ok ht).2 hn (by have:=hx.1;omega) (by have:=hx.2.1;omega) hx.2.2.1 hx.2.2.2.1 hx.2.2.2.2).mono fun e w' q=> ?_
 obtain ⟨y,cd,e1,e2⟩:=q;refine ⟨y,cd,e1,⟨e2.o.1,uQ (zdd e2.o.2) zo,?_⟩,⟨T,ht,e2.o.2⟩⟩;by_cases hc:cd=0
 ·subst hc;exact .inr ⟨rfl,T,ht,Xb h.h e2.o.2⟩
 exact .inl ⟨hc,XL e2.o.2 hc⟩
end
section
open RowKit Lib Go.Sort Maps Shelf
open scoped Classical
def PE:Ren:=⟨fun | 41=>96 | n=>n,fun | 4=>4 | 22=>54 | 23=>149 | n=>n,fun n=>n⟩
theorem Cz:SlLaysE0.n41 prog PE where
 mixed:=zk
 f41:=⟨ "slices.Clone[[]concordat/mesh.Note,concordat/mesh.Note]",zk,func96.trans qk⟩
 t4:=underlying4
 a4:=isAgg4
 z4:=sizeOf4
 v4:=zeroValue4
 t22:=underlying54
 a22:=isAgg54
 z22:=sizeOf54
 v22:=zeroValue54
theorem IS(w)(b off c)(xs)(hn:xs.length<=1000)(hc:∀j u,(mN nY xs)[j]? =some u->w.cell? (qA b (off+j))=some u):
  qC 96 #[.slice (some (qA b off)) xs.length c] w fun e w'=>∃v',e= .returned v'/\w'.ownsRow w.heap.size 149 8 v' xs.length (mN nY xs)/\v'≠qE/\qL w w':=by
 obtain ⟨i0,hi,aD,aw,aJ⟩:=info_parts OU;exact AnyE.slices_Clone Cz i0 _ 8 80 hi aD aw aJ rfl zj sizeOf149 b off xs.length c (mN nY xs) w (mv mj xs) zB zj hc (sJ CI xs)
theorem Mp(w):qC 96 #[qE] w fun e w'=>e= .returned qE/\w'=w:=
 AnyE.slices_Clone_nil Cz 0 0 w
structure Y0 (w wr:qW) (N:qJ) (g k:Nat):Prop where
 m8:qL w wr
 GA:w.heap.size<=g
 block:∃cur,wr.heap[g]? =some (.cells cur 149 (0,0))/\∀j x,k<=j->N[j]? =some x->cur[j*8+7]? =some (At x)
theorem Y0.later{w wr w'}{N}{g k}(h:Y0 w wr N g k)(hb:qL wr w'):Y0 w w' N g k:=by
 obtain ⟨cur,h1,h2⟩:=h.block;exact ⟨zi h.m8 hb,h.GA,cur,(hb.block g (uN.1 h1).1).trans h1,h2⟩
theorem Y0.cell{w wr}{N}{g k}(h:Y0 w wr N g k){x}(hx:N[k]? =some x):wr.cell? (qA g (k*8+7))=some (At x)/\∀o,wr.frozen? (qA g o)=false:=by
 obtain ⟨cur,h1,h2⟩:=h.block;refine ⟨?_,fun o=>by simp [World.frozen?,h1]⟩;unfold World.cell?
 grind
theorem Y0.set{w wr}{N}{g k}(h:Y0 w wr N g k)(v):Y0 w (wr.setCell (qA g (k*8+7)) v) N g (k+1):=by
 obtain ⟨cur,h1,h2⟩:=h.block;have hk:=lZ g [v] (k*8+7) wr;refine ⟨h.m8.trans (hk.m8 h.m8.size (fun j e=>by have e':=e;rw [e'];exact h.GA)),h.GA,_,heap_setCell_same wr g (k*8+7) _ _ _ h1,fun j x hj hx=> ?_⟩
 grind
theorem Mu{gd}{B}{n bm}{K}{st}{N}(w)(h:p9 gd B n bm K st N w)(hN:N.length<=30)(hl:∀x∈N,(IG x).length<=1000):
  qC 55 #[qP bm] w fun e w'=>∃ao cap,e= .returned (.slice ao N.length cap)/\Aside (qL w w'):=by
 obtain ⟨ow,pv,fv,bp,br,d,dv,c,hm⟩:=h;have m1:=hm.D8.c1;have HM:Aside (n9 gd B w ow n bm pv fv bp br d dv c K st N):=hm;have hfly:=hm.L8
 rcases hfly.2 with ⟨rfl,h0⟩ | ⟨fg,fc,cur,rfl,_⟩
 ·have dN:=Mp w;rw [h0];go_enter func55,ntmps55;go_wp2_with fail;refine dN.mono ?_;rintro e w1 ⟨rfl,rfl⟩;go_wp2;refine wp_loop_rounds 1 ?_;rw [rounds_succ];go_wp2;go_ret;exact ⟨_,_,rfl,uO _ _⟩
 have dN:=IS w fg 0 fc N zj (fun j u hj=>by
  have d9:=(uK.1 hj).1
  rw [mv mj] at d9
  rw [Ze,hfly.cellAt j d9,hj])
 go_enter func55,ntmps55;go_wp2_with fail;refine dN.mono ?_;rintro e w1 ⟨v1,rfl,hrow,hne,hb1⟩
 rcases hrow.2 with ⟨q,_⟩ | ⟨g,cap,cur1,rfl,hg1,hg2,hg3,hg4,hg5,hg6⟩
 ·exact absurd q hne
 have H1:Aside (Y0 w w1 N g 0):=⟨hb1,hg1,cur1,hg2,fun j x _ hx=>by
  have hj:=(uK.1 hx).1
  have h7:(mN nY N)[j*8+7]? =some (At x):=(me (enc:=nY) mj hx zj).trans rfl
  rw [<-hg6,Yj] at h7
  split at h7
  ·rw [<-Qe];exact h7
  ·cases h7⟩
 go_wp2;go_loopg [12] N.length (fun kx s12 wr=>∃k:Nat,s12=qN k/\k<=N.length/\N.length - k<=kx/\Aside (Y0 w wr N g k))
 case atStart=>exact ⟨0,rfl,uW _,uM _,H1.o⟩
 case round=>
  obtain ⟨k,rfl,hk,aY,A⟩:=hrel;by_cases hlt:k<N.length
  ·have d1:qlt k N.length=true:=by simp;omega
   have dg:decide (k<N.length)=true:=zl;have wk:((k:Int)).toNat=k:=zj;have pk:(0:Int)<=(k:Int):=zj;have bk:(k:Int)<(N.length:Int):=zj
   obtain ⟨⟨x1,x2,x3,x4,x5,x6,x7⟩,hx⟩:∃x,Aside (N[k]? =some x):=⟨N[k],uL hlt⟩
   obtain ⟨r7,rf⟩:=A.o.cell hx.o;have dI:=(HM.o.B8 _ (uR hx.o)).ops.later A.o.m8;have hlx:=hl _ (uR hx.o);unfold At at r7 dI;dsimp only at r7 dI hlx
   have dN:qC 97 #[.slice x5 x7.length x6] wr fun e w'=>∃ao' cp',e= .returned (.slice ao' x7.length cp')/\Aside (qL wr w'):=by
    rcases dI with ⟨q,rfl⟩ | ⟨b,o,cp,q,hc⟩
    ·cases q
     refine (Bg wr).mono ?_;rintro e w' ⟨rfl,rfl⟩;exact ⟨none,0,rfl,uO _ _⟩
    cases q
    refine (Aq wr b o x6 x7 hlx hc).mono ?_;rintro e w' ⟨v',rfl,hr,_,hb⟩;obtain ⟨a',c',rfl⟩:=mC hr;exact ⟨a',c',rfl,hb⟩
   have HA:Aside (Y0 w wr N g k):=A.o;obtain ⟨u0,b9⟩:=za wr;subst b9;go_wp2_with fail;refine dN.mono ?_;rintro e w2 ⟨ao',cp',rfl,HB⟩;have h2:=HA.o.later HB.o;obtain ⟨r7,rf⟩:=h2.cell hx.o;have H3:Aside (Y0 w (w2.setCell (qA g (k*8+7)) (.slice ao' x7.length cp')) N g (k+1)):=h2.set _;go_wp2;go_roundg (N.length - (k+1))
   case measure=>omega
   case rel=>exact ⟨k+1,zJ,zj,uM _,H3.o⟩
  have d1:qlt k N.length=false:=zl;have dg:decide (k<N.length)=false:=zl;have HA:Aside (qL w wr):=A.o.m8;go_wp2;go_ret;exact ⟨_,_,rfl,HA.o⟩

end