import Derived.Test.YtjclejjkganhfaaGreatDoorSR10
import Derived.Test.YtjclejjkganhfaaGreatDoorSR11
set_option linter.unusedSimpArgs false
set_option linter.unusedVariables false
set_option maxRecDepth 100000
set_option maxHeartbeats 64000000
namespace Go.Proofs.YtjclejjkganhfaaGreatDoor
open Go.Proofs.Tryz
section
open RowKit Lib Go.Sort
theorem Lv{R}(h:I3 R){id} :m9 (lX R) id↔∃x,rE R id=some x/\kdO x=109/\mY x=id:=by
 constructor
 ·rintro ⟨x,hx,k1,k2,k3⟩
  grind [Da]
 exact kn2
theorem JY{R}(h:I3 R){nd id} :I6 (lX R) nd id↔∃x,rE R id=some x/\kdO x=105/\mY x=nd:=by
 constructor
 ·rintro ⟨x,hx,k1,k2,k3⟩
  grind [Da]
 exact kn2
theorem pm{ad}(w)(ao)(cap)(R)(id)(z)(hz:z=true↔m9 (lX R) id)(hE:U7 ad w)(hK:C8 w ao R)(hR:I3 R)(hl:∀i,i<4->(R i).length<=1000)(h2: -9223372036854775808<=id)(h3:id<=9223372036854775807):
  qC 262 #[kV ao cap R,qI id] w (qR (.bool z) w):=by
 obtain ⟨U,hU⟩:=za (w.alloc (.cells #[.slice (ao 0) (R 0).length (cap 0),.slice (ao 1) (R 1).length (cap 1),.slice (ao 2) (R 2).length (cap 2),.slice (ao 3) (R 3).length (cap 3)] 138));have hb:qL w U:=zX;have ac:=Fk U ao cap R id (hE.later hb) (hK.later hb) hR hl h2 h3;rw [Lv hR] at hz
 unfold kV at ac |-
 have HB:Aside (qL w U):=hb
 cases hf:rE R id with
 | none=>
  have hzf:z=false:=by
   cases z with
   | false=>rfl
   | true=>obtain ⟨x,e,_⟩:=hz.1 rfl;rw [hf] at e;cases e
  subst hzf;rw [hf] at ac;unfold mJ lQ at ac;go_enter func262,ntmps262;exact kg2
 | some x=>
  obtain ⟨t,b,n,k,nd,o,s,v⟩:=x
  have HZ:Aside (z=(decide (k=109) &&decide (nd=id))):=by
   show z=(decide (k=109) &&decide (nd=id))
   rw [YS,hz,Yl,decide_eq_true_iff,decide_eq_true_iff];constructor
   ·exact kn0
   rintro ⟨k1,k2⟩;exact ⟨_,hf,k1,k2⟩
  rw [hf] at ac;unfold mJ at ac;dsimp only [Option.getD_some] at ac;by_cases hk:k=109
  ·subst hk;go_enter func262,ntmps262;exact kf4
  have dk:((k:Int)==109)=false:=zm;go_enter func262,ntmps262;exact kf8
theorem As{ad}(w)(ao)(cap)(R)(l8 id)(z)(hz:z=true↔I6 (lX R) l8 id)(hE:U7 ad w)(hK:C8 w ao R)(hR:I3 R)(hl:∀i,i<4->(R i).length<=1000)(h2: -9223372036854775808<=id)(h3:id<=9223372036854775807):
  qC 271 #[kV ao cap R,qI l8,qI id] w (qR (.bool z) w):=by
 obtain ⟨U,hU⟩:=za (w.alloc (.cells #[.slice (ao 0) (R 0).length (cap 0),.slice (ao 1) (R 1).length (cap 1),.slice (ao 2) (R 2).length (cap 2),.slice (ao 3) (R 3).length (cap 3)] 138));have hb:qL w U:=zX;have ac:=Fk U ao cap R id (hE.later hb) (hK.later hb) hR hl h2 h3;rw [JY hR] at hz
 unfold kV at ac |-
 have HB:Aside (qL w U):=hb
 cases hf:rE R id with
 | none=>
  have hzf:z=false:=by
   cases z with
   | false=>rfl
   | true=>obtain ⟨x,e,_⟩:=hz.1 rfl;rw [hf] at e;cases e
  subst hzf;rw [hf] at ac;unfold mJ lQ at ac;go_enter func271,ntmps271;exact kg2
 | some x=>
  obtain ⟨t,b,n,k,nd,o,s,v⟩:=x
  have HZ:Aside (z=(decide (k=105) &&decide (nd=l8))):=by
   show z=(decide (k=105) &&decide (nd=l8))
   rw [YS,hz,Yl,decide_eq_true_iff,decide_eq_true_iff];constructor
   ·exact kn0
   rintro ⟨k1,k2⟩;exact ⟨_,hf,k1,k2⟩
  rw [hf] at ac;unfold mJ at ac;dsimp only [Option.getD_some] at ac;by_cases hk:k=105
  ·subst hk;go_enter func271,ntmps271;exact kf4
  have dk:((k:Int)==105)=false:=zm;go_enter func271,ntmps271;exact kf8
theorem tR{ad}(w)(ao)(cap)(R)(id)(z)(hz:z=true↔id=0\/id=1\/m9 (lX R) id)(hE:U7 ad w)(hK:C8 w ao R)(hR:I3 R)(hl:∀i,i<4->(R i).length<=1000)(h2: -9223372036854775808<=id)(h3:id<=9223372036854775807):
  qC 260 #[kV ao cap R,qI id] w (qR (.bool z) w):=by
 obtain ⟨U,hU⟩:=za (w.alloc (.cells #[.slice (ao 0) (R 0).length (cap 0),.slice (ao 1) (R 1).length (cap 1),.slice (ao 2) (R 2).length (cap 2),.slice (ao 3) (R 3).length (cap 3)] 138));have hb:qL w U:=zX;have HB:Aside (qL w U):=hb;by_cases h0:id=0
 ·obtain rfl:z=true:=hz.2 (.inl h0);subst h0;exact kj3
 by_cases h1:id=1
 ·obtain rfl:z=true:=hz.2 (.inr (.inl h1));subst h1;exact kj3
 have hz':=hz.trans ⟨fun q=>(q.resolve_left h0).resolve_left h1,fun q=>.inr (.inr q)⟩;have ac:=pm U ao cap R id z hz' (hE.later hb) (hK.later hb) hR hl h2 h3;have d0:(id==0)=false:=xm
 have d1:(id==1)=false:=by simp [h1]
 unfold kV at ac |-
 go_enter func260,ntmps260;go_wp2_with fail;rw [<-hU];refine ac.mono ?_;rintro e w1 ⟨rfl,hb1⟩;have B1:Aside (qL w w1):=zi HB.o hb1;go_wp2;go_ret;exact ⟨rfl,B1.o⟩
theorem Pw{S}{x}(hx:x∈S)(ho:0<=mX x):L8 S x↔m9 S (mY x)/\(kdO x=109->mX x=0\/mX x=1\/m9 S (mX x))/\(kdO x=105->mX x=0\/I6 S (mY x) (mX x))/\(kdO x=100->I6 S (mY x) (mX x)):=by
 constructor
 ·rintro ⟨h1,h2,h3⟩;refine ⟨?_,h2,fun k=> ?_,fun k=>h3 (.inr k)⟩
  ·rcases h1 with ⟨k,e⟩ | k
   ·exact ⟨x,hx,k,rfl,e⟩
   exact k
  grind
 rintro ⟨h1,h2,h3,h4⟩;exact ⟨.inr h1,h2,fun k=>k.elim (fun k=>(h3 k.1).resolve_left zj) h4⟩
theorem QN{ad}(w)(ao)(cap)(R)(x)(hx:x∈lX R)(z)(hz:z=true↔L8 (lX R) x)(hE:U7 ad w)(hK:C8 w ao R)(hR:I3 R)(hl:∀i,i<4->(R i).length<=1000):
  qC 221 #[kV ao cap R,mJ x] w (qR (.bool z) w):=by
 have hid:=BI (hR.num.ok x hx);have gO:=rM (hR.num.ok x hx);rw [Pw hx zj] at hz;obtain ⟨t,b,n,k,nd,o,s,v⟩:=x;have q1:nd<=idO (t,b,n,k,nd,o,s,v):=gO.1.elim (fun q=>q.2) (fun q=>Int.le_of_lt q);have q2:o<idO (t,b,n,k,nd,o,s,v):=gO.2.1;have q3:0<=nd:=gO.2.2.1;have q4:0<=o:=gO.2.2.2.1
 have hn0:0<=nd/\nd<=4294967300:=⟨q3,zj⟩
 have ho0:0<=o/\o<=4294967300:=⟨q4,zj⟩
 clear q1 q2 q3 q4;change z=true↔m9 (lX R) nd/\(k=109->o=0\/o=1\/m9 (lX R) o)/\(k=105->o=0\/I6 (lX R) nd o)/\(k=100->I6 (lX R) nd o) at hz;clear hid gO;obtain ⟨U,hU⟩:=za ((w.alloc (.cells #[.slice (ao 0) (R 0).length (cap 0),.slice (ao 1) (R 1).length (cap 1),.slice (ao 2) (R 2).length (cap 2),.slice (ao 3) (R 3).length (cap 3)] 138)).alloc (qOc t b n k nd o s v));obtain ⟨S,hS⟩:=za w.heap.size;have hb:qL w U:=zP
 have aw:m6 U (S+1) (t,b,n,k,nd,o,s,v):=by
  rw [hU,hS];have:=heap_alloc_new (w.alloc (.cells #[.slice (ao 0) (R 0).length (cap 0),.slice (ao 1) (R 1).length (cap 1),.slice (ao 2) (R 2).length (cap 2),.slice (ao 3) (R 3).length (cap 3)] 138)) (qOc t b n k nd o s v);exact kc7
 have hk:I4 U S ao cap R:=yb
 obtain ⟨zn,jt⟩:∃zn:Bool,zn=true↔m9 (lX R) nd:=by
  by_cases q:m9 (lX R) nd
  ·exact ⟨true,by simp [q]⟩
  exact ⟨false,by simp [q]⟩
 have ac:=pm U ao cap R nd zn jt (hE.later hb) (hK.later hb) hR hl zj zj
 have HB:Aside (qL w U/\I4 U S ao cap R/\m6 U (S+1) (t,b,n,k,nd,o,s,v)):=⟨hb,hk,aw⟩
 unfold kV at ac |-
 unfold mJ;clear hb hk aw;go_enter func221,ntmps221;go_wp2_with fail;rw [<-hU,<-hS];clear hU hS;refine ac.mono ?_;clear ac;rintro e w1 ⟨rfl,hb1⟩
 have H1:Aside (qL w w1/\I4 w1 S ao cap R/\m6 w1 (S+1) (t,b,n,k,nd,o,s,v)):=⟨zi HB.o.1 hb1,HB.o.2.1.later hb1,HB.o.2.2.later hb1⟩
 obtain ⟨y0,y1,y2,y3,y4,y5,y6,y7,f8⟩:=m6.ct H1.o.2.2;have k0:=H1.o.2.1.at (i:=0) zj;have k1:=H1.o.2.1.at (i:=1) zj;have k2:=H1.o.2.1.at (i:=2) zj;have k3:=H1.o.2.1.at (i:=3) zj;have ee:=hE.later H1.o.1;have hK1:=hK.later H1.o.1;clear hb1 HB
 cases zn with
 | false=>
  have hzf:z=false:=by
   cases z with
   | false=>rfl
   | true=>exact absurd (jt.2 (hz.1 rfl).1) zo
  subst hzf;clear hz jt;exact kn1
 | true=>
  have cE:=jt.1 rfl;clear jt;by_cases hm:k=109
  ·subst hm;have hz':=hz.trans ⟨fun q=>q.2.1 rfl,fun q=>⟨cE,fun _=>q,fun k=>absurd k zo,fun k=>absurd k zo⟩⟩;have ac:=tR w1 ao cap R o z hz' ee hK1 hR hl zj zj;exact kc2
  have dm:((k:Int)==109)=false:=zm;by_cases hi:k=105
  ·subst hi;by_cases h0:o=0
   ·subst h0;obtain rfl:z=true:=hz.2 ⟨cE,fun k=>absurd k zo,fun _=>.inl rfl,fun k=>absurd k zo⟩;clear hz;exact kn1
   have d0:(o==0)=false:=xm;have hz':=hz.trans ⟨fun q=>(q.2.2.1 rfl).resolve_left h0,fun q=>⟨cE,fun k=>absurd k zo,fun _=>.inr q,fun k=>absurd k zo⟩⟩;have ac:=As w1 ao cap R nd o z hz' ee hK1 hR hl zj zj;exact kc2
  have di:((k:Int)==105)=false:=zm;by_cases hd:k=100
  ·subst hd;have hz':=hz.trans ⟨fun q=>q.2.2.2 rfl,fun q=>⟨cE,fun k=>absurd k zo,fun k=>absurd k zo,fun _=>q⟩⟩;have ac:=As w1 ao cap R nd o z hz' ee hK1 hR hl zj zj;exact kc2
  have dd:((k:Int)==100)=false:=zm;obtain rfl:z=true:=hz.2 ⟨cE,fun k=>absurd k hm,fun k=>absurd k hi,fun k=>absurd k hd⟩;clear hz;exact kn1
def RO(g:Nat)(lb:Array Value)(xs:qX)(p:OpX->Bool)(w:qW):Prop:=
 ∀(W:qW) (x:OpX),x∈xs->qL w W->Calls prog g (#[mJ x]++lb) W (qR (.bool (p x)) w)
def zdH(p:OpX->Bool)(zs:qX)(r:Int):Prop:=
 (r= -1/\∀x∈zs,p x=false)\/∃k x,r=((k:Nat):Int)/\zs[k]? =some x/\p x=true/\∀j y,j<k->zs[j]? =some y->p y=false
theorem AE(p)(g:Nat)(lb)(eg:∀args w,(callFunc g args).run prog w= .ok (.enter g args) w)(ao)(cap)(zs)(w)(hp:RO g lb zs p w)(fF:zs.length<=1000000)(hin:F1 w ao zs):
  qC 163 #[.slice ao zs.length cap,.func (.func g) #[] lb] w fun e w'=>∃r:Int,e= .returned (qI r)/\Aside (zdH p zs r/\qL w w'):=by
 have HP:Aside (RO g lb zs p w):=hp;have HI:Aside (F1 w ao zs):=hin;go_enter func163,ntmps163;go_wp2;go_loopg [5,8] zs.length (fun kx _ s8 wr=>∃(k:Nat),s8=qN k/\k<=zs.length/\zs.length - k<=kx/\Aside (qL w wr/\∀j l,j<k->zs[j]? =some l->p l=false))
 case atStart=>exact ⟨0,rfl,uW _,uL _,⟨uM _ w,fun j l hj=>zj⟩⟩
 case round=>
  obtain ⟨k,rfl,hk,aY,A⟩:=hrel;by_cases hlt:k<zs.length
  ·have aq:qlt k zs.length=true:=by simp;omega
   have ek:((k:Int)).toNat=k:=zj;have pk:(0:Int)<=(k:Int):=zj;have bk:(k:Int)<(zs.length:Int):=zj
   obtain ⟨⟨t,b,n,kd,nd,o,s,v⟩,hl⟩:∃l,Aside (zs[k]? =some l):=⟨zs[k],uJ hlt⟩
   obtain ⟨blk,off,aG,hc⟩:=(HI.o.later A.o.1).e hl.o;subst aG;have r0:=hc 0 _ rfl;have r1:=hc 1 _ rfl;have r2:=hc 2 _ rfl;have r3:=hc 3 _ rfl;have r4:=hc 4 _ rfl;have r5:=hc 5 _ rfl;have r6:=hc 6 _ rfl;have r7:=hc 7 _ rfl;simp only [ZC] at r0;have ac:=HP.o wr (t,b,n,kd,nd,o,s,v) (uP hl.o) A.o.1;unfold mJ at ac
   cases hq:p (t,b,n,kd,nd,o,s,v) with
   | true=>
    exact kg8
   | false=>
    rw [hq] at ac;have HQ:=Lib.hid hq;go_wp2_with (go_at_fn g;refine ac.mono ?_;rintro e w' ⟨rfl,hb'⟩);go_roundg (zs.length - (k+1))
    case measure=>omega
    case rel=>
     refine ⟨k+1,zN,zj,uL _,⟨hb',fun j l hj e=> ?_⟩⟩
     rcases Yc j k with h | h
     ·exact A.o.2 j l h e
     exact kg0
  exact kb5
theorem Kk(p)(g:Nat)(lb)(eg:∀args w,(callFunc g args).run prog w= .ok (.enter g args) w)(ao)(cap)(zs)(w)(hp:RO g lb zs p w)(fF:zs.length<=1000000)(hin:F1 w ao zs):
  qC 219 #[.slice ao zs.length cap,.func (.func g) #[] lb] w (qR (.bool (zs.any p)) w):=by
 have ac:=AE p g lb eg ao cap zs w hp fF hin;go_enter func219,ntmps219;go_wp2_with fail;refine ac.mono ?_;rintro e w' ⟨r,rfl,H⟩
 rcases H.o.1 with ⟨hr,ha⟩ | ⟨k,x,hr,hx,hpx,_⟩
 ·exact kg6
 exact ki7
theorem Fj{ad}(w)(ao)(cap)(R)(fa)(fc)(fresh)(hin:F1 w fa fresh)(hx:∀x∈fresh,x∈lX R)(z)(hz:z=true↔∀x∈fresh,L8 (lX R) x)(hE:U7 ad w)(hK:C8 w ao R)(hR:I3 R)(hl:∀i,i<4->(R i).length<=1000)(hn:fresh.length<=1000):
  Calls prog 156 #[kV ao cap R,.slice fa fresh.length fc] w fun e w'=>e= .returned (.bool z)/\Below w.heap.size w w':=by
 obtain ⟨U,hU⟩:=za (w.alloc (.cells #[.slice (ao 0) (R 0).length (cap 0),.slice (ao 1) (R 1).length (cap 1),.slice (ao 2) (R 2).length (cap 2),.slice (ao 3) (R 3).length (cap 3)] 138));have hb:Below w.heap.size w U:=zX
 have hk:I4 U w.heap.size ao cap R:=by rw [hU];exact I4.F5 w ao cap R
 obtain ⟨p,hp⟩:∃p:OpX->Bool,∀x,p x=true↔¬L8 (lX R) x:=by
  refine ⟨fun x=> @decide (¬L8 (lX R) x) (Classical.propDecidable _),fun x=> ?_⟩;exact @decide_eq_true_iff _ (Classical.propDecidable _)
 have eG:RO 220 #[.pointer (some ⟨w.heap.size,0,none⟩)] fresh p U:=by
  intro W x hxf hbW;have hkW:=hk.later hbW
  have hc:=QN (W.alloc (.cells #[.int .i64 x.1,.int .i64 x.2.1,.int .i64 x.2.2.1,.int .u8 (x.2.2.2.1:Int),.int .i64 x.2.2.2.2.1,.int .i64 x.2.2.2.2.2.1,.string x.2.2.2.2.2.2.1,.string x.2.2.2.2.2.2.2] 88)) ao cap R x (hx x hxf) (!(p x)) (by
   rw [Bool.not_eq_true']
   constructor
   ·intro q
    refine Classical.byContradiction (fun k=> ?_)
    rw [(hp x).2 k] at q
    cases q
   ·intro q
    cases hq:p x with
    | false=>rfl
    | true=>exact absurd q ((hp x).1 hq)) ((hE.later hb).later (hbW.alloc hbW.size _)) ((hK.later hb).later (hbW.alloc hbW.size _)) hR hl
  have k0:=hkW.at (i:=0) zj;have k1:=hkW.at (i:=1) zj;have k2:=hkW.at (i:=2) zj;have k3:=hkW.at (i:=3) zj;have hlt:=hkW.lt;have hsz:=hbW.size;have HB:Aside (Below U.heap.size U W):=hbW;clear hkW hbW hp;obtain ⟨t,b,n,kd,nd,o,s,v⟩:=x;unfold kV mJ at hc;dsimp only at hc
  show Calls prog 220 #[mJ (t,b,n,kd,nd,o,s,v),.pointer (some ⟨w.heap.size,0,none⟩)] W _
  unfold mJ;go_enter func220,ntmps220;go_wp2_with fail;refine hc.mono ?_;clear hc;rintro e w1 ⟨rfl,hb1⟩;have B1:Aside (Below U.heap.size U w1):=(HB.o.alloc HB.o.size _).trans (hb1.mono zm);clear hb1;go_wp2;go_ret;exact ⟨zr,B1.o⟩
 have ac:=Kk p 220 #[.pointer (some ⟨w.heap.size,0,none⟩)] (enters_of func220 zk rfl) fa fc fresh U eG zj (hin.later hb);have HB:Aside (Below w.heap.size w U):=hb
 have HZ:Aside (z= !(fresh.any p)):=by
  show z= !(fresh.any p)
  rw [YS,hz,Bool.not_eq_true',List.any_eq_false];exact ⟨fun q x hxf hpx=>(hp x).1 hpx (q x hxf),fun q x hxf=>Classical.byContradiction (fun k=>q x hxf ((hp x).2 k))⟩
 clear hz hp eG hb hk;unfold kV;go_enter func156,ntmps156;go_wp2_with fail;rw [<-hU];clear hU;refine ac.mono ?_;clear ac;rintro e w1 ⟨rfl,hb1⟩;have B1:Aside (Below w.heap.size w w1):=zi HB.o hb1;clear hb1;go_wp2;go_ret;exact ⟨by rw [HZ.o];rfl,B1.o⟩
theorem zde(a0 a1 a2 a3):(∀w,(Instr.index 138 (.agg #[a0,a1,a2,a3]) (qI 0)).run prog w= .ok a0 w)/\(∀w,(Instr.index 138 (.agg #[a0,a1,a2,a3]) (qI 1)).run prog w= .ok a1 w)/\(∀w,(Instr.index 138 (.agg #[a0,a1,a2,a3]) (qI 2)).run prog w= .ok a2 w)/\∀w,(Instr.index 138 (.agg #[a0,a1,a2,a3]) (qI 3)).run prog w= .ok a3 w:=
 ⟨fun _=>zk,fun _=>zk,fun _=>zk,fun _=>zk⟩
theorem Bh(w)(ao)(cap)(R)(hl:∀i,i<4->(R i).length<=1000):
  qC 157 #[kV ao cap R] w (qR (qI ((lX R).length:Int)) w):=by
 have h0:=hl 0 zj;have h1:=hl 1 zj;have h2:=hl 2 zj;have h3:=hl 3 zj
 have HL:Aside (((lX R).length:Int)=(R 0).length+(R 1).length+(R 2).length+(R 3).length):=by
  show ((lX R).length:Int)=_
  unfold lX;simp;omega
 obtain ⟨x0,x1,x2,x3⟩:=zde (.slice (ao 0) (R 0).length (cap 0)) (.slice (ao 1) (R 1).length (cap 1)) (.slice (ao 2) (R 2).length (cap 2)) (.slice (ao 3) (R 3).length (cap 3));unfold kV;go_enter func157,ntmps157;go_wp2;refine wp_loop_rounds 5 ?_
 iterate 5
  rw [rounds_succ];go_wp2
 go_ret;refine ⟨?_,zh w _⟩;rw [HL.o]
 first | rfl | (refine congrArg _ (congrArg _ ?_);omega)
theorem Fe{fn}{p:Tmp}{ty}(h:fn.results= #[.cell p ty])(tmps)(P)(w):
  (results fn tmps).run P w=((asAddr (tmps.getD p undef)).run P w).andThen fun a w1=>((loadVar ty a).run P w1):=by
 simp only [results,h]
 simp_all
theorem IC(w)(ao)(cap)(R)(hl:∀i,i<4->(R i).length<=1000):
  qC 107 #[kV ao cap R] w (qR (.agg #[qI ((R 0).length:Int),qI ((R 1).length:Int),qI ((R 2).length:Int),qI ((R 3).length:Int)]) w):=by
 obtain ⟨x0,x1,x2,x3⟩:=zde (.slice (ao 0) (R 0).length (cap 0)) (.slice (ao 1) (R 1).length (cap 1)) (.slice (ao 2) (R 2).length (cap 2)) (.slice (ao 3) (R 3).length (cap 3));unfold kV;go_enter func107,ntmps107;go_wp2;refine wp_loop_rounds 5 ?_
 iterate 5
  rw [rounds_succ];go_wp2
 (try simp only [Exit.inBlock,Exit.then]);refine bodyPost_ret (v:=.agg #[qI ((R 0).length:Int),qI ((R 1).length:Int),qI ((R 2).length:Int),qI ((R 3).length:Int)]) ?_ rfl ⟨rfl,?_⟩
 ·rw [Fe rfl];go_simp
 exact ((zh w _).alloc zr _).alloc zm _
end
section
open RowKit Lib Go.Sort Maps
def NC(ad:qF)(w:qW)(v:Value)(i:Int)(c:Nat):Prop:=∃b,v= .iface 67 (qP b)/\w.heap[b]? =some (.cells #[qI i,eV ad c] 71 (0,0))
def Bb(ad:qF)(w:qW)(S l:qX)(e:Ending)(w':qW):Prop:=(match oX S 0 [] l with
 | .inl (i,c)=>∃v,e=qT #[qE,v]/\NC ad w' v (i:Int) c
 | .inr fresh=>∃v,e=qT #[v,.nilIface]/\w'.ownsRow w.heap.size 88 8 v fresh.length (cellsOf fresh))/\qL w w'
def UA(l:qX):Prop:=∀x∈l,x.2.2.2.2.2.2.1.size<=1000000/\x.2.2.2.2.2.2.2.size<=1000000
structure V9 (w:qW) (S:Nat) (ao:Nat->Option Addr) (cap:Nat->Nat) (R:Rws) (l:qX) (k:Nat) (fresh:qX) (v:Value) (wr:qW):Prop where
 m8:qL w wr
 F3:I4 wr S ao cap R
 map:K9 wr (S+1) k (fun q=>nM fresh q.1 q.2)
 row:wr.ownsRow (S+2) 88 8 v fresh.length (cellsOf fresh)
 fk:M2 (lX R) fresh
 is:oX (lX R) 0 [] l=oX (lX R) k fresh (l.drop k)
 D4:fresh.length<=k
theorem K9.mono{w}{b n n'}{f}(h:K9 w b n f)(hn:n<=n'):K9 w b n' f:=by
 obtain ⟨D,h,r⟩:=h;exact ⟨D,h.mono hn,r⟩
theorem V9.later{w}{S}{ao}{cap}{R}{l}{k}{fresh}{v}{wr w'}(h:V9 w S ao cap R l k fresh v wr)(hb:qL wr w'):V9 w S ao cap R l k fresh v w':=
 ⟨zi h.m8 hb,h.F3.later hb,h.map.same (hb.block _ h.map.lt),mD h.row (fun g hg=>hb.block g (h.row.lt g hg).2),h.fk,h.is,h.D4⟩
theorem RX(fresh)(o):(fun q:VA=>nM (fresh++ [o]) q.1 q.2)=(fun q:VA=>if q=(byO o,mB o) then (nM fresh q.1 q.2).or (some o) else nM fresh q.1 q.2):=by
 funext q;rw [Gh];unfold nM
 grind
theorem pX(w:qW)(x)(T)(j)(u)(hj:(ny x)[j]? =some u):(w.alloc (.cells (qVa x) T)).cell? (((qB w.heap.size):Addr).add j)=some u:=by
 simp_all [Addr.add_lit,Zc,heap_alloc_new,ny]
theorem RB(w2:qW)(o)(a b):((w2.alloc o).alloc (.cells #[a,b] 71)).drew.heap[w2.heap.size+1]? =some (.cells #[a,b] 71 (0,0)):=by
 have:=heap_alloc_new (w2.alloc o) (.cells #[a,b] 71);exact kc7
theorem TZ{ad}(w)(ao)(cap)(R)(la)(lc)(l)(hE:U7 ad w)(hX:w.cell? (qB 6)=some (.iface 437 (.pointer (some (ad 6)))))(hK:C8 w ao R)(hN:M8 R)(hl:∀i,i<4->(R i).length<=1000)(hin:F1 w la l)(hs:UA l)(hn:l.length<=1000):
  qC 154 #[kV ao cap R,.slice la l.length lc] w (Bb ad w (lX R) l):=by
 obtain ⟨S,hS⟩:=za w.heap.size;obtain ⟨U,hU⟩:=za ((w.alloc (.cells #[.slice (ao 0) (R 0).length (cap 0),.slice (ao 1) (R 1).length (cap 1),.slice (ao 2) (R 2).length (cap 2),.slice (ao 3) (R 3).length (cap 3)] 138)).alloc (.map #[] 0));have hb:qL w U:=zP;have hk:I4 U S ao cap R:=yb
 have hm:K9 U (S+1) 0 (fun q=>nM [] q.1 q.2):=by
  rw [hU,hS];have:=If (w.alloc (.cells #[.slice (ao 0) (R 0).length (cap 0),.slice (ao 1) (R 1).length (cap 1),.slice (ao 2) (R 2).length (cap 2),.slice (ao 3) (R 3).length (cap 3)] 138));exact kc7
 have H0:Aside (V9 w S ao cap R l 0 [] qE U):=⟨hb,hk,hm,Zi _ _ _ _,pW _,rfl,uL _⟩
 have HE:Aside (U7 ad w/\C8 w ao R/\F1 w la l/\S=w.heap.size):=⟨hE,hK,hin,hS⟩
 have HX:Aside (w.cell? (qB 6)=some (.iface 437 (.pointer (some (ad 6))))):=hX;clear hb hk hm hE hK hin hX;unfold kV;have jG:= @run_makeMap prog;go_enter func154,ntmps154;go_wp2;rw [<-hU,<-hS];clear hU hS jG;go_loopg [6,17] l.length (fun kx s6 js wr=>∃(k:Nat) (fresh:qX) (ov:Value),js=qN k/\ov=s6/\k<=l.length/\l.length - k<=kx/\Aside (V9 w S ao cap R l k fresh ov wr))
 case atStart=>exact ⟨0,[],_,rfl,rfl,uW _,uL _,H0.o⟩
 case round=>
  obtain ⟨k,fresh,ov,rfl,rfl,hkl,aY,A⟩:=hrel;clear H0;by_cases hlt:k<l.length
  ·have d1:qlt k l.length=true:=by simp;omega
   have wk:((k:Int)).toNat=k:=zj;have pk:(0:Int)<=(k:Int):=zj;have bk:(k:Int)<(l.length:Int):=zj
   obtain ⟨⟨t,b,n,kd,nd,o,s,v⟩,hx⟩:∃x,Aside (l[k]? =some x):=⟨l[k],uJ hlt⟩
   have cM:Aside (l.drop k=(t,b,n,kd,nd,o,s,v)::l.drop (k+1)):=by
    show l.drop k=_
    exact ko2
   have hsz:=hs _ (uP hx.o);obtain ⟨blk,off,aG,hc⟩:=(HE.o.2.2.1.later A.o.m8).e hx.o;subst aG;have r0:=hc 0 _ rfl;have r1:=hc 1 _ rfl;have r2:=hc 2 _ rfl;have r3:=hc 3 _ rfl;have r4:=hc 4 _ rfl;have r5:=hc 5 _ rfl;have r6:=hc 6 _ rfl;have r7:=hc 7 _ rfl;simp only [ZC] at r0;clear hc;obtain ⟨U,hU⟩:=za (wr.alloc (qOc t b n kd nd o s v))
   have ah:qL wr U:=by rw [hU];exact zh wr _
   have O1:m6 U wr.heap.size (t,b,n,kd,nd,o,s,v):=by rw [hU];exact m6.F5 wr (t,b,n,kd,nd,o,s,v)
   have bA:=mr t b n kd nd o s v U (HE.o.1.later (zi A.o.m8 ah)) hsz.1 hsz.2
   have H1:Aside (V9 w S ao cap R l k fresh ov U/\m6 U wr.heap.size (t,b,n,kd,nd,o,s,v)):=⟨A.o.later ah,O1⟩
   have e0:mv (t,b,n,kd,nd,o,s,v)=opE t b n kd nd o s.data.toList v.data.toList:=rfl;rw [<-e0] at bA;clear e0 ah O1;by_cases au:mv (t,b,n,kd,nd,o,s,v)=0
   ·rw [au] at bA;have aR:eV ad 0= .nilIface:=rfl;rw [aR] at bA;clear aR;obtain ⟨i,hi,hbi,-⟩:=Cm au;have hbi:b=(i:Int):=hbi;subst hbi
    obtain ⟨m,hm,jJ⟩:∃m:Nat,n=(m:Int)+1/\m<400:=by
     have q:=mT au;have q5:1<=n:=q.2.2.2.2.1;have q6:n<=400:=q.2.2.2.2.2.1;exact ⟨(n - 1).toNat,zj,zj⟩
    subst hm;have gM:Aside (mv (t,(i:Int),(m:Int)+1,kd,nd,o,s,v)=0):=au;clear au;go_wp2_with fail;rw [<-hU];clear hU r0 r1 r2 r3 r4 r5 r6 r7;refine bA.mono ?_;clear bA;rintro e w1 ⟨rfl,hb1⟩;obtain ⟨P,hP⟩:=za wr.heap.size;obtain ⟨Q,hQ⟩:=za w1.heap.size;obtain ⟨V,hV⟩:=za (w1.alloc (.cells #[qN i,qI ((m:Int)+1)] 300))
    have ai:qL w1 V:=by rw [hV];exact zh w1 _
    have N1:V.heap[Q]? =some (.cells #[qN i,qI ((m:Int)+1)] 300 (0,0)):=by rw [hV,hQ];exact heap_alloc_new w1 _
    have H2:Aside (V9 w S ao cap R l k fresh ov V/\m6 V P (t,(i:Int),(m:Int)+1,kd,nd,o,s,v)/\V.heap[Q]? =some (.cells #[qN i,qI ((m:Int)+1)] 300 (0,0))/\P<Q/\S+1<P/\V.heap.size=Q+1):=by
     have bQ:=(H1.o.2.later hb1)
     refine ⟨(H1.o.1.later hb1).later ai,by rw [hP];exact bQ.later ai,N1,by rw [hP,hQ];exact bQ.lt,by rw [hP];exact A.o.map.lt,by rw [hV,hQ];simp⟩
    rw [<-hP];obtain ⟨y0,y1,y2,y3,y4,y5,y6,y7,f8⟩:=(H1.o.2.later hb1).cells;rw [<-hP] at y0 y1 y2 y3 y4 y5 y6 y7 f8;dsimp only at y0 y1 y2 y3 y4 y5 y6 y7
    have HV:Aside (V=w1.alloc (.cells #[qN i,qI ((m:Int)+1)] 300)/\Q=w1.heap.size/\P=wr.heap.size):=⟨hV,hQ,hP⟩
    clear hb1 ai H1 N1 hV hQ hP
    obtain ⟨q0,q1⟩:V.cell? (qB Q)=some (qN i)/\V.cell? (qA Q 1)=some (qI ((m:Int)+1)):=by
     have:=H2.o.2.2.1;constructor<;>simp [World.cell?,this]
    have k0:=H2.o.1.F3.at (i:=0) zj;have k1:=H2.o.1.F3.at (i:=1) zj;have k2:=H2.o.1.F3.at (i:=2) zj;have k3:=H2.o.1.F3.at (i:=3) zj;go_upto_region 10 with fail;rw [<-HV.o.1,<-HV.o.2.1];clear y0 y1 y2 y3 y4 y5 y6 y7 f8;go_wp2_with fail;clear q0 q1 k0 k1 k2 k3
    have dO:Aside (nM (lX R++fresh) (byO (t,(i:Int),(m:Int)+1,kd,nd,o,s,v)) (mB (t,(i:Int),(m:Int)+1,kd,nd,o,s,v))=((R i)[m]?).or (nM fresh (i:Int) ((m:Int)+1))):=by
     show nM (lX R++fresh) (i:Int) ((m:Int)+1)=_
     rw [Gh,hN.F hi]
    cases hy:(R i)[m]? with
    | some y=>
     obtain ⟨t',b',n',kd',nd',o',s',v'⟩:=y;have ac:=JW V ao cap R i m _ (HE.o.2.1.later H2.o.1.m8) hi zj hy;unfold kV mJ at ac;refine ac.mono ?_;clear ac;rintro e w2 ⟨rfl,hb2⟩
     have H3:Aside (V9 w S ao cap R l k fresh ov w2/\m6 w2 P (t,(i:Int),(m:Int)+1,kd,nd,o,s,v)):=⟨H2.o.1.later hb2,H2.o.2.1.later hb2⟩
     have hpl:=H3.o.2.lt;obtain ⟨y0,y1,y2,y3,y4,y5,y6,y7,f8⟩:=m6.ct H3.o.2
     have jR:=fun w=>zdp t' b' n' kd' nd' o' s' v' t (i:Int) ((m:Int)+1) kd nd o s v w
     have HY:Aside ((R i)[m]? =some (t',b',n',kd',nd',o',s',v')):=hy;clear hb2 H2 HV hy
     cases hq:eqB t' b' n' kd' nd' o' s' v' t (i:Int) ((m:Int)+1) kd nd o s v with
     | true=>
      have HQ:Aside ((t',b',n',kd',nd',o',s',v')=(t,(i:Int),(m:Int)+1,kd,nd,o,s,v)):=by
       exact kk2
      rw [hq] at jR;clear hq;go_wp2;go_roundg (l.length - (k+1))
      case measure=>omega
      case rel=>
       have fH:=H3.o.1.later ((uM w2.heap.size w2).alloc zg (qOc t' b' n' kd' nd' o' s' v'));refine ⟨k+1,fresh,ov,zN,rfl,zj,uL _,⟨fH.m8,fH.F3,fH.map.mono zj,fH.row,fH.fk,?_,by have:=fH.D4;omega⟩⟩;rw [fH.is,cM.o];exact rd gM.o (by rw [dO.o,HY.o,HQ.o];rfl)
     | false=>
      have HQ:Aside ((t',b',n',kd',nd',o',s',v')≠(t,(i:Int),(m:Int)+1,kd,nd,o,s,v)):=fun e=>by
       cases e
       rw [Jb] at hq
       cases hq
      rw [hq] at jR;clear hq;have x6:=HX.o;have x6:=(H3.o.1.m8.cell (p:=(qB 6)) (uN w (qB 6) HX.o)).trans HX.o;have bY:6<w2.heap.size:=uN w2 (qB 6) x6;go_wp2;go_region
      all_goals
       go_wp2;go_ret2;unfold Bb;rw [A.o.is,cM.o,sA gM.o (by rw [dO.o,HY.o];rfl) HQ.o];exact ki3
    | none=>
     have ac:=IQ V ao cap R i m hi (List.getElem?_eq_none_iff.1 hy);unfold kV mJ lQ at ac;refine ac.mono ?_;clear ac;rintro e w2 ⟨rfl,hb2⟩
     have H3:Aside (V9 w S ao cap R l k fresh ov w2/\m6 w2 P (t,(i:Int),(m:Int)+1,kd,nd,o,s,v)/\w2.heap[Q]? =some (.cells #[qN i,qI ((m:Int)+1)] 300 (0,0))/\P<Q/\S+1<P):=⟨H2.o.1.later hb2,H2.o.2.1.later hb2,(hb2.block Q (by have:=H2.o.2.2.2.2.2;omega)).trans H2.o.2.2.1,H2.o.2.2.2.1,H2.o.2.2.2.2.1⟩
     have hpl:=H3.o.2.1.lt;have hql:=(uK.1 H3.o.2.2.1).1;obtain ⟨y0,y1,y2,y3,y4,y5,y6,y7,f8⟩:=m6.ct H3.o.2.1
     obtain ⟨q0,q1⟩:w2.cell? (qB Q)=some (qN i)/\w2.cell? (qA Q 1)=some (qI ((m:Int)+1)):=by
      have:=H3.o.2.2.1;constructor<;>simp [World.cell?,this]
     have HN:Aside ((R i)[m]? =none):=hy;clear hb2 H2 HV hy;have bG:WfN ((i:Int),(m:Int)+1):=zbA zj zj zj zj;have bT:=(H3.o.1.map.same (uR w2 qZc (S+1) H3.o.1.map.lt)).F bG;unfold Me at bT;dsimp only at bT
     cases hy:nM fresh (i:Int) ((m:Int)+1) with
     | some y=>
      obtain ⟨t',b',n',kd',nd',o',s',v'⟩:=y;rw [hy] at bT;unfold mJ at bT;dsimp only [Option.getD_some,Option.isSome_some] at bT
      have jR:=fun w=>zdp t' b' n' kd' nd' o' s' v' t (i:Int) ((m:Int)+1) kd nd o s v w
      have HY:Aside (nM fresh (i:Int) ((m:Int)+1)=some (t',b',n',kd',nd',o',s',v')):=hy;clear hy
      cases hq:eqB t' b' n' kd' nd' o' s' v' t (i:Int) ((m:Int)+1) kd nd o s v with
      | true=>
       have HQ:Aside ((t',b',n',kd',nd',o',s',v')=(t,(i:Int),(m:Int)+1,kd,nd,o,s,v)):=by
        exact kk2
       rw [hq] at jR;clear hq;go_wp2;go_roundg (l.length - (k+1))
       case measure=>omega
       case rel=>
        have fH:=H3.o.1.later ((uM w2.heap.size w2).alloc zg (qOc t' b' n' kd' nd' o' s' v'));refine ⟨k+1,fresh,ov,zN,rfl,zj,uL _,⟨fH.m8,fH.F3,fH.map.mono zj,fH.row,fH.fk,?_,by have:=fH.D4;omega⟩⟩;rw [fH.is,cM.o];exact rd gM.o (by rw [dO.o,HN.o,HY.o,HQ.o];rfl)
      | false=>
       have HQ:Aside ((t',b',n',kd',nd',o',s',v')≠(t,(i:Int),(m:Int)+1,kd,nd,o,s,v)):=fun e=>by
        cases e
        rw [Jb] at hq
        cases hq
       rw [hq] at jR;clear hq;have x6:=HX.o;have x6:=(H3.o.1.m8.cell (p:=(qB 6)) (uN w (qB 6) HX.o)).trans HX.o;have bY:6<w2.heap.size:=uN w2 (qB 6) x6;go_wp2;go_region
       all_goals
        go_wp2;go_ret2;unfold Bb;rw [A.o.is,cM.o,sA gM.o (by rw [dO.o,HN.o,HY.o];rfl) HQ.o];exact ki3
     | none=>
      rw [hy] at bT;unfold mJ lQ at bT;dsimp only [Option.getD_none,Option.isSome_none] at bT;have HY:Aside (nM fresh (i:Int) ((m:Int)+1)=none):=hy;clear hy;have hlen:=A.o.D4
      have kR:=(H3.o.1.map.same (uR w2 qZc (S+1) H3.o.1.map.lt))
      obtain ⟨w3,ae,eT,lp⟩:=kR.store zB bG (t,(i:Int),(m:Int)+1,kd,nd,o,s,v);have K3:=lS lp.grown;have HZ:=H3.o.1.later ((uM w2.heap.size w2).alloc zg qZc);have hO3:m6 w3 P (t,(i:Int),(m:Int)+1,kd,nd,o,s,v):=(K3.block P zm (fun e=>by have:=H3.o.2.2.2.2;simp at e;omega)).trans (H3.o.2.1.later ((uM w2.heap.size w2).alloc zg _));have hB3:=HZ.m8.trans (K3.m8 HZ.m8.size (fun k e=>by have:=HE.o.2.2.2;simp at e;omega));have hR3:=mD HZ.row (fun g hg=>K3.block g (HZ.row.lt g hg).2 (fun e=>by have:=(HZ.row.lt g hg).1;simp at e;omega));have hX3:I4 w3 S ao cap R:=(K3.block S HZ.F3.lt (fun e=>by simp at e)).trans HZ.F3
      have hM3':K9 w3 (S+1) (k+1) (fun q=>nM (fresh++ [(t,(i:Int),(m:Int)+1,kd,nd,o,s,v)]) q.1 q.2):=by
       rw [RX]
       have e:(fun q:VA=>if q=(byO (t,(i:Int),(m:Int)+1,kd,nd,o,s,v),mB (t,(i:Int),(m:Int)+1,kd,nd,o,s,v)) then (nM fresh q.1 q.2).or (some (t,(i:Int),(m:Int)+1,kd,nd,o,s,v)) else nM fresh q.1 q.2)=(fun q:VA=>if q=((i:Int),(m:Int)+1) then some (t,(i:Int),(m:Int)+1,kd,nd,o,s,v) else nM fresh q.1 q.2):=by
        funext q
        show (if q=((i:Int),(m:Int)+1) then _ else _)=_
        split
        ·rename_i e;rw [e];show (nM fresh (i:Int) ((m:Int)+1)).or _=_;rw [HY.o];rfl
        rfl
       rw [e];exact eT
      obtain ⟨z0,z1,z2,z3,z4,z5,z6,z7,g8⟩:=m6.ct hO3
      have H4:Aside (qL w w3/\I4 w3 S ao cap R/\K9 w3 (S+1) (k+1) (fun q=>nM (fresh++ [(t,(i:Int),(m:Int)+1,kd,nd,o,s,v)]) q.1 q.2)/\w3.ownsRow (S+2) 88 8 ov fresh.length (cellsOf fresh)/\S+1<w3.heap.size):=⟨hB3,hX3,hM3',hR3,hM3'.lt⟩
      unfold Me mJ at ae;dsimp only at ae;obtain ⟨i0,d6,aD,aw,aH⟩:=info_parts rA;clear eT lp K3 HZ hO3 hB3 hR3 hX3 hM3' kR;go_wp2_with (at_builtin;refine wpList_append_own _ rfl _ _ 136 rfl (S+2) 88 i0 _ 8 80 underlying136 d6 aD aw aH rfl zj _ _ _ rfl (H4.o.2.2.2.1.alloc _) (qB w3.heap.size) 1 1 (ny (t,(i:Int),(m:Int)+1,kd,nd,o,s,v)) rfl ?qc1 ?qc2 ?qc3 ?qc4 ?qc5 ?qc6 ?_)
      case qc1=>rfl
      case qc2=>exact pX w3 (t,(i:Int),(m:Int)+1,kd,nd,o,s,v) _
      case qc3=>exact ng _
      case qc4=>simp only [maxLen];omega
      case qc5=>omega
      case qc6=>simp;have:=H4.o.2.2.2.2;omega
      intro v' w4 hown ag hnil;have K4:=lS ag
      have hN:Aside (V9 w S ao cap R l (k+1) (fresh++ [(t,(i:Int),(m:Int)+1,kd,nd,o,s,v)]) v' w4):=by
       have jk:qL w3 (w3.alloc (qOc t (i:Int) ((m:Int)+1) kd nd o s v)):=zh w3 _;have hrow:=H4.o.2.2.2.1;have hsz:=H4.o.2.2.2.2
       have hne:∀g,some g=ov.ownBlock->S+2<=g:=fun g hg=>(hrow.lt g hg.symm).1
       refine ⟨?_,?_,?_,?_,A.o.fk.aa2 gM.o ?_,?_,zm⟩
       ·exact (zi H4.o.1 jk).trans (K4.m8 (uO H4.o.1.size jk.size) (fun g hg=>by have:=hne g hg;have:=HE.o.2.2.2;omega))
       ·exact (K4.block S zm (fun e=>by have:=hne S e;omega)).trans ((jk.block S zj).trans H4.o.2.1)
       ·exact H4.o.2.2.1.same ((K4.block (S+1) zm (fun e=>by have:=hne _ e;omega)).trans (jk.block _ hsz))
       ·rw [oR,uQ]
        have:cellsOf [(t,(i:Int),(m:Int)+1,kd,nd,o,s,v)]=ny (t,(i:Int),(m:Int)+1,kd,nd,o,s,v):=by simp [cellsOf]
        rw [this];exact hown
       ·rw [dO.o,HN.o,HY.o];rfl
       rw [A.o.is,cM.o,BD gM.o (by rw [dO.o,HN.o,HY.o];rfl)]
      clear K4 hown ag hnil H4 H3 bT ae z0 z1 z2 z3 z4 z5 z6 z7 g8 y0 y1 y2 y3 y4 y5 y6 y7 f8 q0 q1;go_wp2;go_roundg (l.length - (k+1))
      case measure=>omega
      case rel=>exact ⟨k+1,_,_,zN,rfl,zj,uL _,hN.o⟩
   obtain ⟨c,hc⟩:=za (mv (t,b,n,kd,nd,o,s,v));rw [<-hc] at bA
   have aR:eV ad c= .iface 437 (.pointer (some (ad (c - 1)))):=by unfold eV;rw [if_neg zj]
   rw [aR] at bA
   have HC:Aside (mv (t,b,n,kd,nd,o,s,v)≠0/\c=mv (t,b,n,kd,nd,o,s,v)/\eV ad c= .iface 437 (.pointer (some (ad (c - 1))))):=⟨au,hc,aR⟩
   clear aR hc au;go_wp2_with fail;rw [<-hU];clear hU r0 r1 r2 r3 r4 r5 r6 r7;refine bA.mono ?_;clear bA;rintro e w1 ⟨rfl,hb1⟩;have B1:Aside (qL w w1):=(H1.o.1.later hb1).m8;clear hb1;go_wp2;go_ret2;unfold Bb;rw [A.o.is,cM.o,FY HC.o.1];exact ⟨⟨_,rfl,w1.heap.size,rfl,by rw [<-HC.o.2.1,HC.o.2.2];exact heap_alloc_new w1 _⟩,B1.o.alloc B1.o.size _⟩
  have d1:qlt k l.length=false:=zm;go_wp2;go_ret2;unfold Bb;have:=A.o.is;rw [Yx zj,oX] at this;rw [this];refine ⟨⟨_,rfl,JF A.o.row (by have:=HE.o.2.2.2;omega)⟩,A.o.m8⟩
end
section
open RowKit Shelf Maps
attribute [local go_sem] Oper.semAt_some
theorem Vz:(prog.info? 212).map (fun i=>(i.zero,i.size,i.bytes))=some (some (.agg #[qI 0,qI 0,.string ⟨#[]⟩]),3,32):=zk
theorem ML(w:qW)(p)(j)(u)(hj:(lL p)[j]? =some u):(w.alloc (.cells #[qI p.1,qI p.2.1,.string p.2.2] 212)).cell? (((qB w.heap.size):Addr).add j)=some u:=by
 simp_all [Addr.add_lit,Zc,heap_alloc_new,lL]
theorem Ef(w)(Bm b nn)(f)(G:wg f)(eU:Bm<w.heap.size)(hm:w.cell? ⟨Bm,0,none⟩=some (.map (some b)))(hM:sL prog 3 w b nn f)(dF:nn<=2000000):
  Calls prog 292 #[.slice none 0 0,.func (.func 241) #[] #[.pointer (some ⟨Bm,0,none⟩)]] w fun e w'=>∃v ps,e= .returned v/\aaR f ps/\ps.length<=nn/\w'.ownsRow w.heap.size 212 3 v ps.length (mP lL ps)/\Below w.heap.size w w':=by
 obtain ⟨i0,hi,aD,aw,aH⟩:=info_parts Vz;refine (callsIn_wide (n:=4)).1 ?_;refine callsIn_of_wp_marks func292 rfl trivial ?_ rfl;simp only [ntmps292,Zl,Za,Zq,Nat.reduceAdd,Nat.reduceSub,Zv,Zw,ZD,ZA,ZF,ZE];gi_wp2;obtain ⟨w1,hw1⟩:=za (w.alloc (.cells #[.slice none 0 0] 209));rw [<-hw1];have bN:Below w.heap.size w w1:=yY;have aI:w1.heap.size=w.heap.size+1:=xX;obtain ⟨B,hB⟩:=za w.heap.size;have e1:Boxed w1 B 209 (.slice none 0 0):=xe
 rw [<-hB] at bN aI eU |-
 have HB:Aside (B=w.heap.size):=hB;have bF:B<=w.heap.size:=zj;clear hB;have hm1:=(bN.cell (p:=⟨Bm,0,none⟩) eU).trans hm;have cg:=hM.same (bN.block b (by have:=HB.o;have:=hM.lt;omega));clear hw1 hm hM
 refine wpIn_rangeFunc_ownH rfl zj (gf:=241) (lb:= #[.pointer (some ⟨Bm,0,none⟩)]) rfl trivial (enters_of func241 zk rfl)
  (Fv Fence.wide (4 - 1) trivial rfl zj Bm b nn f G w1 zj hm1 cg) walksK_t (walksK_b (w:=w1)) (uM _ _) (fun _=>rfl)
  (fun pre W=>((∃v,Boxed W B 209 v/\W.ownsRow B 212 3 v pre.length (mP lL pre)/\pre.length<=nn))/\(w1.heap.size<=W.heap.size/\Below B w W))
  (fun _ _ _=>False)
  (OwnFrom.and (Own.from (holdsRow_own B B 209 212 3 (fun pre=>pre.length) (fun pre=>mP lL pre) (fun pre _=>pre.length<=nn)) _) (OwnFrom.and (fun _ X Y row hs hg _=>uO hs hg.size) (ownFrom_below zj zj)))
  (fun _ _ _ _ _ hs _ _=>hs)
  ⟨⟨_,e1,Zi w1 B _ _,uW _⟩,uL _,bN⟩
  (fun x a' W=>∃Bx,w1.heap.size<=Bx/\x8 W Bx x/\a'= {tmps:= #[.slice none 0 0,.func (.func 241) #[] #[.pointer (some ⟨Bm,0,none⟩)],.pointer (some ⟨B,0,none⟩),undef,.slice none 0 0,.pointer (some ⟨Bx,0,none⟩),.func (.func 241) #[] #[.pointer (some ⟨Bm,0,none⟩)],.agg #[.int .i64 x.1,.int .i64 x.2.1,.string x.2.2],undef,undef,undef,undef,undef],defers:=[]})
  (fun x a'=>Own.from (fun _ X Y row hs hg hr=>zZ) _)
  ?assign ?body ?done ?stop
 case assign=>
  rintro l pre x W K ⟨⟨v,hv,hrow,hpl⟩,hsz,hBW⟩ hK;have dl:Aside _:=hK;have bM:B<=W.heap.size:=zj;clear hK;unfold pG;gi_wp2;refine dl.o _ _ ((KeepsOthers.alloc _ _).from _) (KeepsOthers.alloc _ _).walks ⟨⟨v,hv.alloc _,hrow.alloc _,hpl⟩,zm,hBW.alloc bM _⟩ ⟨W.heap.size,zj,heap_alloc_new W _,rfl⟩
 case body=>
  rintro l pre x a' W hl _ ⟨⟨v,hv,hrow,hpl⟩,hsz,hBW⟩ ⟨Bx,hBx,hE,rfl⟩ hlt;have g1:=hv.cell;have f0:=hE.c0;have f1:=hE.c1;have f2:=hE.c2;have bM:B<=W.heap.size:=zj;gi_wp2_with (gi_at_builtin;refine wpListIn_append_own _ rfl _ _ 209 rfl B 212 i0 _ 3 32 underlying209 hi aD aw aH rfl zj _ _ _ rfl (hrow.alloc _) ⟨W.heap.size,0,none⟩ 1 1 (lL x) rfl rfl (ML W x) (sF x) zB zj zm ?_;intro v' w2 hown' ag _;obtain ⟨g',cap',rfl⟩:=ownsRow_succ hown';obtain ⟨fO,dx,hr2,hk2,hb2⟩:=hv.appended zo hrow bM zg hown' ag;have hc1:=fO.cell;have jh:=fO.frozen);exact ⟨hk2.from _,hk2.walks,⟨⟨_,dx,by rw [uQ,ZJ,nR];simpa [mP] using hr2,zm⟩,uq,hBW.trans hb2⟩⟩
 case done=>
  rintro D ys W hD hall ⟨⟨v,hv,hrow,hpl⟩,hsz,hBW⟩ hK;have g1:=hv.cell;gi_wp2;refine ⟨zr,.inl ⟨_,_,rfl,run_takeDeferred hK,?_⟩⟩;refine ⟨v,by simp [results,f292,go_sem],v,ys,rfl,hall,hpl,?_,?_⟩
  ·exact kl8
  exact ke3
 case stop=>
  rintro D c pre W _ _ h _;exact h.elim
def L9(w:qW)(v:Value)(qs:List Plc):Prop:=(v=qE/\qs= [])\/∃g cap,v=qG g qs.length cap/\g<w.heap.size/\∀j u,(mP lL qs)[j]? =some u->w.cell? (qA g j)=some u
theorem L9.later{w w'}{v}{qs}(h:L9 w v qs)(hb:qL w w'):L9 w' v qs:=by
 rcases h with h | ⟨g,cap,h1,h2,h3⟩
 ·exact .inl h
 exact .inr ⟨g,cap,h1,uT h2 hb.size,fun j u hj=>(hb.cell (p:=(qA g j)) h2).trans (h3 j u hj)⟩
theorem JH(w)(Bm b nn)(f)(G:wg f)(eU:Bm<w.heap.size)(hm:w.cell? (qB Bm)=some (.map (some b)))(hM:sL prog 3 w b nn f)(dF:nn<=2000000):
  qC 240 #[.func (.func 241) #[] #[qP Bm]] w fun e w'=>∃v ps,e= .returned v/\aaR f ps/\ps.length<=nn/\w'.ownsRow w.heap.size 212 3 v ps.length (mP lL ps)/\qL w w':=by
 have hc:=Ef w Bm b nn f G eU hm hM dF;go_enter func240,ntmps240;go_wp2_with fail;refine hc.mono ?_;rintro e w' ⟨v,ps,rfl,H⟩;have HH:Aside (aaR f ps/\ps.length<=nn/\w'.ownsRow w.heap.size 212 3 v ps.length (mP lL ps)/\qL w w'):=H;go_wp2;go_ret;exact ⟨v,ps,rfl,HH.o⟩
theorem MU(w)(Bm b nn)(f)(G:wg f)(eU:Bm<w.heap.size)(hm:w.cell? (qB Bm)=some (.map (some b)))(hM:sL prog 3 w b nn f)(dF:nn<=200000):
  qC 175 #[.func (.func 241) #[] #[qP Bm],.func (.func 177) #[] #[]] w fun e w'=>∃v qs,e= .returned v/\C3 f qs/\qs.length<=nn/\L9 w' v qs/\qL w w'/\∀g,v.ownBlock=some g->w.heap.size<=g:=by
 have hc:=JH w Bm b nn f G eU hm hM zj;go_enter func175,ntmps175;go_wp2_with fail;refine hc.mono ?_;rintro e w1 ⟨v,ps,rfl,hall,hpl,hown,hb⟩
 rcases hown.2 with ⟨rfl,h0⟩ | ⟨g,cap,cur,rfl,hbg,-⟩
 ·have bq:=Zg.1 h0
  have HH:Aside (C3 f []/\qL w w1):=⟨by subst bq;exact hall.acd (List.Perm.refl _) List.Pairwise.nil,hb⟩
  go_wp2_with (go_at_call 191;refine (Cx none 0 _ _).mono ?_;rintro e w' ⟨rfl,rfl⟩);go_ret;exact ⟨_,[],rfl,HH.o.1,uW _,.inl ⟨rfl,rfl⟩,HH.o.2,fun g e=>yN⟩
 have hs:=zcf w1 w.heap.size g cap ps hown zj;have bY:=(hown.lt g rfl).2
 have HH:Aside (aaR f ps/\ps.length<=nn/\qL w w1/\w.heap.size<=g/\g<w1.heap.size):=⟨hall,hpl,hb,hbg,bY⟩
 go_wp2_with fail;refine hs.mono ?_;rintro e w2 ⟨rfl,qs,hp,hpw,hcells,hk⟩
 have H2:Aside (C3 f qs/\qs.length=ps.length/\qs.length<=nn/\(∀j u,(mP lL qs)[j]? =some u->w2.cell? (qA g j)=some u)/\qL w w2/\g<w2.heap.size/\w.heap.size<=g):=
  ⟨HH.o.1.acd hp (List.Pairwise.imp (fun {a b} h=>zj) hpw),hp.length_eq,um,hcells,HH.o.2.2.1.trans (hk.m8 (HH.o.2.2.1.size) (fun k e=>by have:=HH.o.2.2.2.1;omega)),uT HH.o.2.2.2.2 hk.size,HH.o.2.2.2.1⟩
 go_wp2;go_ret;exact ⟨_,qs,rfl,H2.o.1,H2.o.2.2.1,.inr ⟨g,cap,by rw [H2.o.2.1];rfl,H2.o.2.2.2.2.2.1,H2.o.2.2.2.1⟩,H2.o.2.2.2.2.1,fun k e=>by cases e;exact H2.o.2.2.2.2.2.2⟩
theorem DD(w)(bt bm nn)(v0)(f)(G:wg f)(hT:t7 w bt bm v0)(hM:sL prog 3 w bm nn f)(dF:nn<=200000):
  qC 129 #[qP bt] w fun e w'=>∃v qs,e= .returned v/\C3 f qs/\qs.length<=nn/\L9 w' v qs/\qL w w'/\∀g,v.ownBlock=some g->w.heap.size<=g:=by
 have t0:=hT.c0;have hv:=callsIn_wide.1 (Oe Fence.wide 3 trivial rfl (some bm) w);have hb1:qL w (w.alloc (.cells #[.map (some bm)] 185)):=zh w _;have bK:Boxed (w.alloc (.cells #[.map (some bm)] 185)) w.heap.size 185 (.map (some bm)):=heap_alloc_new w _;have hs:=MU (w.alloc (.cells #[.map (some bm)] 185)) w.heap.size bm nn f G zr bK.cell (hM.same (hb1.block bm hM.lt)) dF;go_enter func129,ntmps129;go_wp2_with (go_at_call 176;refine hv.mono ?_;clear hv;rintro e w' ⟨rfl,rfl⟩);refine hs.mono ?_;rintro e w2 ⟨v,qs,rfl,h1,h2,h3,h4,h5⟩
 have HH:Aside (C3 f qs/\qs.length<=nn/\L9 w2 v qs/\qL w w2/\∀g,v.ownBlock=some g->w.heap.size<=g):=⟨h1,h2,h3,hb1.trans (h4.mono zr),fun g hg=>by have:=h5 g hg;simp at this;omega⟩
 go_wp2;go_ret;exact ⟨v,qs,rfl,HH.o⟩
theorem Lz(w)(bt bm nn)(v0)(f)(G:wg f)(hT:t7 w bt bm v0)(hM:sL prog 3 w bm nn f)(dF:nn<=200000):
  qC 129 #[qP bt] w fun e w'=>∃v qs,e= .returned v/\C3 f qs/\qs.length<=nn/\L9 w' v qs/\qL w w':=
 (DD w bt bm nn v0 f G hT hM dF).mono fun _ _ ⟨v,qs,h1,h2,h3,h4,h5,_⟩=>⟨v,qs,h1,h2,h3,h4,h5⟩
end
section
open RowKit Shelf Maps
attribute [local go_sem] Oper.semAt_some
def T9(W:qW)(g off:Nat)(L:qX):Prop:=∀j u,(cellsOf L)[j]? =some u->W.cell? (qA g (off+j))=some u
theorem T9.same{W W'}{g off}{L}(h:T9 W g off L)(e:W'.heap[g]? =W.heap[g]?):T9 W' g off L:=fun j u hj=>by
 rw [<-h j u hj]
 grind [uS]
theorem T9.at{W}{g off}{L}(h:T9 W g off L){i}{x}(hx:L[i]? =some x)(c){u}(hu:(ny x)[c]? =some u):W.cell? (qA g (off+i*8+c))=some u:=by
 have hin:F1 W (some (qA g off)) L:=.inr ⟨g,off,rfl,h⟩;obtain ⟨b,o,e,hc⟩:=hin.e hx
 simp_all
theorem PF{W W':qW}{g}(h:g<W.heap.size)(e:W'.heap[g]? =W.heap[g]?):g<W'.heap.size:=by
 grind
theorem MR(F)(n)(h7:F.fn 270)(cR:F.round=none)(hn:1<=n)(l Bs g off cap)(ao)(L)(hlen:L.length<=1000)(aG:L= []\/ao=some (qA g off))(J Jx:List OpX->World->Prop)
  (hY:∀pre x W,J pre W->pre.length<L.length->YieldAt F (n - 1) prog l #[mJ x] W fun e W'=>
   (e= .returned (.bool true)/\J (pre++ [x]) W'/\D8 g Bs W W')\/(e= .returned (.bool false)/\Jx (pre++ [x]) W'))
  (W) (hJ:AbidesFrom W.heap.size J) (hBl:Bs<W.heap.size) (bY:g<W.heap.size) (bM:W.cell? (qB Bs)=some (.slice ao L.length cap)) (hc:T9 W g off L) (h0:J [] W):
  CallsIn F n prog 270 #[.func (.yield l) #[] #[],qP Bs] W fun e W'=>(∃v,e= .returned v)/\
   ((∃ys,ys=L/\J ys W')\/(∃pre,True/\Jx pre W')):=by
 refine callsIn_of_wp func270 rfl h7 ?_ cR;simp only [ntmps270,Zl,Za,Zq,Nat.reduceAdd,Nat.reduceSub,Zv,Zw,ZD,ZA,ZF,ZE];gi_wp2
 gi_loopw [4,7] (fun _ i wr=>∃k:Nat,k<=L.length/\i=qN k/\J (L.take k) wr/\D8 g Bs W wr)
  (fun _ i _=>(L.length - (intOf i).toNat))
 case atStart=>exact ⟨0,uW _,zr,by simpa using h0,D8.refl _ _ _⟩
 case round=>
  obtain ⟨k,hk,rfl,jo,co⟩:=hrel;have iR:=(uS (a:=(qB Bs)) co.2).trans bM;by_cases hlt:k<L.length
  ·have iO:=aG.resolve_left (fun e=>zL);subst iO
   obtain ⟨⟨t,b,m,kd,nd,o,s,v⟩,cG⟩:∃x,L[k]? =some x:=⟨L[k],uJ hlt⟩
   have hJ3:J (L.take k) (wr.alloc (qOc t b m kd nd o s v)):=hJ _ wr _ none jo (YI wr _ none) (fun r e=>yN);obtain ⟨fn,tmps,assign,body,hy,hR⟩:=hY _ (t,b,m,kd,nd,o,s,v) _ hJ3 zL;have hrow:=hc.same co.1;unfold mJ at hy;have c0:wr.cell? (qA g (off+k*8))=some (qI t):=hrow.at cG 0 (u:=qI t) rfl;have c1:=hrow.at cG 1 (u:=qI b) rfl;have c2:=hrow.at cG 2 (u:=qI m) rfl;have c3:=hrow.at cG 3 (u:=.int .u8 (kd:Int)) rfl;have c4:=hrow.at cG 4 (u:=qI nd) rfl;have c5:=hrow.at cG 5 (u:=qI o) rfl;have c6:=hrow.at cG 6 (u:=.string s) rfl;have c7:=hrow.at cG 7 (u:=.string v) rfl;have d6:(0:Int)<=(k:Int):=zj;have hib:(k:Int)<(L.length:Int):=zj;have wk:((k:Int)).toNat=k:=zj;have d1:qlt k L.length=true:=zm
   have htake:L.take (k+1)=L.take k++ [(t,b,m,kd,nd,o,s,v)]:=by
    rw [Zy,cG];rfl
   have HK:Aside (k<L.length/\D8 g Bs W (wr.alloc (qOc t b m kd nd o s v))/\L.take (k+1)=L.take k++ [(t,b,m,kd,nd,o,s,v)]):=⟨hlt,co.trans ⟨uR _ _ _ (PF bY co.1),uR _ _ _ (PF hBl co.2)⟩,htake⟩
   have hR':Aside (RoundIn F (n - 1) prog l fn tmps assign body (wr.alloc (qOc t b m kd nd o s v)) fun e W'=>(e= .returned (.bool true)/\J (L.take k++ [(t,b,m,kd,nd,o,s,v)]) W'/\D8 g Bs (wr.alloc (qOc t b m kd nd o s v)) W')\/(e= .returned (.bool false)/\Jx (L.take k++ [(t,b,m,kd,nd,o,s,v)]) W')):=hR;gi_wp2;refine hR'.o.mono ?_;rintro e W3 (⟨rfl,hJ3,hk3⟩ | ⟨rfl,hJx3⟩)
   ·gi_wp2;go_roundw
    case rel=>exact ⟨k+1,by have:=HK.o.1;omega,zN,by rw [HK.o.2.2];exact hJ3,HK.o.2.1.trans hk3⟩
    grind [intOf]
   gi_wp2;refine bodyPost_ret (results_none rfl _ _ _) rfl ?_;exact ⟨⟨_,rfl⟩,.inr ⟨_,trivial,hJx3⟩⟩
  obtain rfl:k=L.length:=zj;have d1:qlt L.length L.length=false:=zr;gi_wp2;go_end0
  simp_all
theorem FI(F)(n)(h7:F.fn 270)(cR:F.round=none)(hn:1<=n)(Bs g off cap)(ao)(L)(hlen:L.length<=1000)(aG:L= []\/ao=some (qA g off))(w)(bM:Bs<w.heap.size)(hg:g<w.heap.size)
  (hc:w.cell? (qB Bs)=some (.slice ao L.length cap)) (hI:T9 w g off L):
  SeqStopsK F n prog 270 #[qP Bs] (fun x:OpX=> #[mJ x]) (D8 g Bs) (fun ys=>ys=L) (fun _=>True) L.length w:=fun l J Jx W hW hJ _ hY h0=>by
 have fE:=(hW.cell (p:=(qB Bs)) bM).trans hc;exact MR F n h7 cR hn l Bs g off cap ao L hlen aG J Jx hY W hJ (uT bM hW.size) (uT hg hW.size) fE (hI.same (hW.block g hg)) h0
theorem Li(a)(D4 cap)(w):qC 216 #[.slice a D4 cap] w fun e w'=>e= .returned (.func (.func 270) #[] #[qP w.heap.size])/\w'=w.alloc (.cells #[.slice a D4 cap] 136):=by
 go_enter func216,ntmps216;exact ka7
theorem ER(w)(Bs g off cap)(ao)(L)(hlen:L.length<=1000)(aG:L= []\/ao=some ⟨g,off,none⟩)(bM:Bs<w.heap.size)(hg:g<w.heap.size)(hc:w.cell? ⟨Bs,0,none⟩=some (.slice ao L.length cap))(hI:T9 w g off L):
  Calls prog 327 #[.slice none 0 0,.func (.func 270) #[] #[.pointer (some ⟨Bs,0,none⟩)]] w fun e w'=>∃v,e= .returned v/\w'.ownsRow w.heap.size 88 8 v L.length (cellsOf L)/\Below w.heap.size w w':=by
 obtain ⟨i0,hi,aD,aw,aH⟩:=info_parts rA;refine (callsIn_wide (n:=4)).1 ?_;refine callsIn_of_wp_marks func327 rfl trivial ?_ rfl;simp only [ntmps327,Zl,Za,Zq,Nat.reduceAdd,Nat.reduceSub,Zv,Zw,ZD,ZA,ZF,ZE];gi_wp2;obtain ⟨w1,hw1⟩:=za (w.alloc (.cells #[.slice none 0 0] 136));rw [<-hw1];have bN:Below w.heap.size w w1:=yY;have aI:w1.heap.size=w.heap.size+1:=xX;obtain ⟨B,hB⟩:=za w.heap.size;have e1:Boxed w1 B 136 (.slice none 0 0):=xe
 rw [<-hB] at bN aI bM hg |-
 have HB:Aside (B=w.heap.size):=hB;have bF:B<=w.heap.size:=zj;clear hB;have hc1:=(bN.cell (p:=⟨Bs,0,none⟩) bM).trans hc;have hI1:=hI.same (bN.block g hg);clear hw1 hc hI
 refine wpIn_rangeFunc_ownH rfl zj (gf:=270) (lb:= #[.pointer (some ⟨Bs,0,none⟩)]) rfl trivial (enters_of func270 zk rfl)
  (FI Fence.wide (4 - 1) trivial rfl zj Bs g off cap ao L hlen aG w1 zj zj hc1 hI1) D8.trans (fun W l o o' hl _ _ _=>D8.put (N:=w1.heap.size) zj zj W l o' hl) (uM _ _) (fun _=>rfl)
  (fun pre W=>((∃v,Boxed W B 136 v/\W.ownsRow B 88 8 v pre.length (cellsOf pre)/\pre.length<=L.length))/\(w1.heap.size<=W.heap.size/\Below B w W))
  (fun _ _ _=>False)
  (OwnFrom.and (Own.from (holdsRow_own B B 136 88 8 (fun pre=>pre.length) (fun pre=>cellsOf pre) (fun pre _=>pre.length<=L.length)) _) (OwnFrom.and (fun _ X Y row hs hg _=>uO hs hg.size) (ownFrom_below zj zj)))
  (fun _ _ _ _ _ hs _ _=>hs)
  ⟨⟨_,e1,Zi w1 B _ _,uW _⟩,uL _,bN⟩
  (fun x a' W=>∃Bx,w1.heap.size<=Bx/\m6 W Bx x/\a'= {tmps:= #[.slice none 0 0,.func (.func 270) #[] #[.pointer (some ⟨Bs,0,none⟩)],.pointer (some ⟨B,0,none⟩),undef,.slice none 0 0,.pointer (some ⟨Bx,0,none⟩),.func (.func 270) #[] #[.pointer (some ⟨Bs,0,none⟩)],mJ x,undef,undef,undef,undef,undef],defers:=[]})
  (fun x a'=>Own.from (fun _ X Y row hs hg hr=>zZ) _)
  ?assign ?body ?done ?stop
 case assign=>
  rintro l pre x W K ⟨⟨v,hv,hrow,hpl⟩,hsz,hBW⟩ hK;have dl:Aside _:=hK;have iR:B<=W.heap.size:=zj;clear hK;unfold mJ;gi_wp2;refine dl.o _ _ ((KeepsOthers.alloc _ _).from _) ⟨uR _ _ _ zj,uR _ _ _ zj⟩ ⟨⟨v,hv.alloc _,hrow.alloc _,hpl⟩,zm,hBW.alloc iR _⟩ ⟨W.heap.size,zj,heap_alloc_new W _,rfl⟩
 case body=>
  rintro l pre x a' W hl _ ⟨⟨v,hv,hrow,hpl⟩,hsz,hBW⟩ ⟨Bx,hBx,hE,rfl⟩ hlt;have g1:=hv.cell;obtain ⟨f0,f1,f2,f3,f4,f5,f6,f7,-⟩:=hE.cells;have iR:B<=W.heap.size:=zj;obtain ⟨t,b,m,kd,nd,o,s,v0⟩:=x;dsimp only at f0 f1 f2 f3 f4 f5 f6 f7;unfold mJ;gi_wp2_with (gi_at_builtin;refine wpListIn_append_own _ rfl _ _ 136 rfl B 88 i0 _ 8 80 underlying136 hi aD aw aH rfl zj _ _ _ rfl (hrow.alloc _) ⟨W.heap.size,0,none⟩ 1 1 (ny (t,b,m,kd,nd,o,s,v0)) rfl rfl (pX W (t,b,m,kd,nd,o,s,v0) _) (ng _) zB zj zm ?_;intro v' w2 hown' ag _;obtain ⟨g',cap',rfl⟩:=ownsRow_succ hown';obtain ⟨fO,dx,hr2,hk2,hb2⟩:=hv.appended zo hrow iR zg hown' ag;have hc1:=fO.cell;have jh:=fO.frozen);refine ⟨hk2.from _,⟨hb2.block g hg,hb2.block Bs bM⟩,⟨⟨_,dx,?_,zm⟩,uq,hBW.trans hb2⟩⟩;rw [uQ,ZJ,oR]
  have:cellsOf [(t,b,m,kd,nd,o,s,v0)]=ny (t,b,m,kd,nd,o,s,v0):=by simp [cellsOf]
  rw [this];exact hr2
 case done=>
  rintro D ys W hD hall ⟨⟨v,hv,hrow,hpl⟩,hsz,hBW⟩ hK;have g1:=hv.cell;gi_wp2;refine ⟨zr,.inl ⟨_,_,rfl,run_takeDeferred hK,?_⟩⟩;subst hall;refine ⟨v,by simp [results,f327,go_sem],v,rfl,?_,?_⟩
  ·exact kl8
  exact ke3
 case stop=>
  rintro D c pre W _ _ h _;exact h.elim
theorem DW(w)(Bs g off cap)(ao)(L)(hlen:L.length<=1000)(aG:L= []\/ao=some (qA g off))(bM:Bs<w.heap.size)(hg:g<w.heap.size)(hc:w.cell? (qB Bs)=some (.slice ao L.length cap))(hI:T9 w g off L):
  qC 268 #[.func (.func 270) #[] #[qP Bs]] w fun e w'=>∃v,e= .returned v/\w'.ownsRow w.heap.size 88 8 v L.length (cellsOf L)/\qL w w':=by
 have dQ:=ER w Bs g off cap ao L hlen aG bM hg hc hI;go_enter func268,ntmps268;go_wp2_with fail;refine dQ.mono ?_;rintro e w' ⟨v,rfl,H⟩;have HH:Aside (w'.ownsRow w.heap.size 88 8 v L.length (cellsOf L)/\qL w w'):=H;go_wp2;go_ret;exact ⟨v,rfl,HH.o⟩

end