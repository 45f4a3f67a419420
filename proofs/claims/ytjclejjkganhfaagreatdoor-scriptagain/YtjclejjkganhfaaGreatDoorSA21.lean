import Derived.Test.YtjclejjkganhfaaGreatDoorSA18
set_option linter.unusedSimpArgs false
set_option linter.unusedVariables false
set_option maxRecDepth 100000
set_option maxHeartbeats 64000000
namespace Go.Proofs.YtjclejjkganhfaaGreatDoor
open Go.Proofs.Tryz
section
open RowKit
def ox(Kp:Nat->Prop)(ad:qF)(Q:Nat->World->Prop)(W:qW)(e:Ending)(w':qW):Prop:=∃cd,e= .returned (eV ad cd)/\Aside (D9 Kp W w'/\Q cd w')
def zbH(ad:qF)(Q:Nat->World->Prop)(e:Ending)(w':qW):Prop:=∃cd,((cd=0/\e= .returned (.tuple #[.string ⟨#[111,107]⟩,.nilIface]))\/(cd≠0/\e= .returned (.tuple #[.string ⟨#[]⟩,eV ad cd])))/\Aside (Q cd w')
theorem MK(w)(ad)(Q)(q s g)(v0 v1 v2)(x)(hS:C3 w v0 v1 v2 x)(kq:o9 w q 93 [clV g [s]])
  (eg:∀args w,(callFunc g args).run prog w= .ok (.enter g args) w)
  (hg:∀W,qL w W->Calls prog g #[.agg #[v0,v1,v2],ptB s] W fun e w'=>∃cd,e= .returned (eV ad cd)/\Aside (Q cd w')):
  qC 84 #[.agg #[v0,v1,v2],ptB q] w (zbH ad Q):=by
 obtain ⟨a0,n0,q0,rfl⟩:∃a0 n0 q0,v0= .slice a0 n0 q0:=by obtain ⟨⟨B0,h0⟩,_,_⟩:=hS;obtain ⟨x,y,e⟩:=mC h0;exact ⟨_,_,_,e⟩
 obtain ⟨a1,n1,q1,rfl⟩:∃a0 n0 q0,v1= .slice a0 n0 q0:=qM;obtain ⟨a2,n2,q2,rfl⟩:∃a0 n0 q0,v2= .slice a0 n0 q0:=qz;have hb0:qL w (w.alloc (.cells #[.slice a0 n0 q0,.slice a1 n1 q1,.slice a2 n2 q2] 84)):=zh w _;have kq':=(kq.later hb0 kq.lt).cell 0;simp only [Zb] at kq';have hc:=hg _ hb0;unfold ptB clV at*;simp only [ZR,Yu,List.toArray] at kq';go_enter func84,ntmps84;go_wp2_with fail;refine hc.mono ?_;rintro e w1 ⟨cd,rfl,HQ⟩;by_cases h0:cd=0
 ·subst h0;rw [show eV ad 0= .nilIface from rfl];go_wp2;go_ret2;exact ⟨0,.inl ⟨rfl,rfl⟩,HQ.o⟩
 have HEV:Aside (eV ad cd= .iface 437 (.pointer (some (ad (cd - 1))))):=if_neg h0;rw [HEV.o];go_wp2;go_ret2;exact ⟨cd,.inr ⟨h0,by rw [HEV.o];rfl⟩,HQ.o⟩
theorem NY(w)(Kp)(ad)(Q)(s p bm)(v0 v1 v2)(x)(y0 y1)(hS:C3 w v0 v1 v2 x)(hy0:x.1[0]? =some y0)(hy1:x.1[1]? =some y1)(ks:o9 w s 44 [ptB p])(kp:o9 w p 46 [ptB bm])(bC:Kp s/\Kp p/\Kp w.heap.size/\(∀k,v0.ownBlock=some k->Kp k)/\∀k,v1.ownBlock=some k->Kp k)
  (hm:∀W,qL w W->qC 39 #[qP bm,qI y0,qI y1] W (ox Kp ad Q W)) (hQ:∀cd W W',Q cd W->qL W W'->Q cd W'):
  qC 38 #[.agg #[v0,v1,v2],ptB s] w fun e w'=>∃cd,e= .returned (eV ad cd)/\Aside (Q cd w'):=by
 obtain ⟨g0,c0,rfl,l0,h0⟩:=hS.abH (by have:=(uK.1 hy0).1;omega);have k0:=h0 0 y0 hy0;have b0:=(uK.1 hy0).1;have k1:=h0 1 y1 hy1;have b1:=(uK.1 hy1).1;generalize x.1.length=n0 at*;have kq0:=bC.2.2.2.1 g0 rfl;obtain ⟨a1,n1,q1,rfl⟩:∃a0 n0 q0,v1= .slice a0 n0 q0:=zL;obtain ⟨a2,n2,q2,rfl⟩:∃a0 n0 q0,v2= .slice a0 n0 q0:=zv;have bi1:(1:Int)<(n0:Int):=zj;have hb0:qL w (w.alloc (.cells #[qG g0 n0 c0,.slice a1 n1 q1,.slice a2 n2 q2] 84)):=zh w _;have kb:=mq w [qG g0 n0 c0,.slice a1 n1 q1,.slice a2 n2 q2] 84;have dw:=(ks.later hb0 ks.lt).cell 0;have bZ:=(kp.later hb0 kp.lt).cell 0;have s0:=kb.cell 0;have s1:=kb.cell 1;have dR:=mu hb0 k0;have k1':=mu hb0 k1;simp only [Zb,Zf] at dw bZ s0 s1;have hc:=hm _ hb0.drew;have kz:=bC.2.2.1;unfold ptB at*;go_enter func38,ntmps38;go_upto_region 1 with fail;generalize w.alloc (.cells #[qG g0 n0 c0,.slice a1 n1 q1,.slice a2 n2 q2] 84)=V at*;generalize w.heap.size=Sd at*;have CS:=(D9.refl Kp V).drew;refine lV (S:=D9 Kp V) zk CS (fun aa=> ?_);refine tk 0 CS ?_ (y:=ty yt);refine tk 1 CS ?_;refine tk 2 CS ?_;refine tk 3 CS ?_ (y:=ty yo);refine tk 4 CS ?_;refine tk 5 CS ?_ (y:=ty zR);refine tk 6 CS ?_;refine tk 7 CS ?_ (y:=ty yr);refine tk 8 CS ?_;refine tk 9 CS ?_ (y:=ty zR);refine tk 10 CS ?_;refine tk 11 CS ?_ (y:=ty (by intro w' ab;have q:=ab.cell (b:=g0) (o:=1) kq0 k1';clear ab;go_simp;try with_reducible rfl));exact kd3
theorem DJ(w)(Kp)(ad)(Q)(s p bm)(v0 v1 v2)(x)(y0)(hS:C3 w v0 v1 v2 x)(hy0:x.2.1[0]? =some y0)(ks:o9 w s 44 [ptB p])(kp:o9 w p 46 [ptB bm])(bC:Kp s/\Kp p/\Kp w.heap.size/\(∀k,v0.ownBlock=some k->Kp k)/\∀k,v1.ownBlock=some k->Kp k)
  (hm:∀W,qL w W->qC 41 #[qP bm,qI y0] W (ox Kp ad Q W)) (hQ:∀cd W W',Q cd W->qL W W'->Q cd W'):
  qC 40 #[.agg #[v0,v1,v2],ptB s] w fun e w'=>∃cd,e= .returned (eV ad cd)/\Aside (Q cd w'):=by
 obtain ⟨a0,n0,q0,rfl⟩:∃a0 n0 q0,v0= .slice a0 n0 q0:=zA;obtain ⟨g1,c1,rfl,l1,h1⟩:=hS.aab (by have:=(uK.1 hy0).1;omega);have k0:=h1 0 y0 hy0;have b0:=(uK.1 hy0).1;generalize x.2.1.length=n1 at*;have lq:=bC.2.2.2.2 g1 rfl;obtain ⟨a2,n2,q2,rfl⟩:∃a0 n0 q0,v2= .slice a0 n0 q0:=zv;have hb0:qL w (w.alloc (.cells #[.slice a0 n0 q0,qG g1 n1 c1,.slice a2 n2 q2] 84)):=zh w _;have kb:=mq w [.slice a0 n0 q0,qG g1 n1 c1,.slice a2 n2 q2] 84;have dw:=(ks.later hb0 ks.lt).cell 0;have bZ:=(kp.later hb0 kp.lt).cell 0;have s0:=kb.cell 0;have s1:=kb.cell 1;have dR:=mu hb0 k0;simp only [Zb,Zf] at dw bZ s0 s1;have hc:=hm _ hb0.drew;have kz:=bC.2.2.1;unfold ptB at*;go_enter func40,ntmps40;exact ka3
theorem Jd(w)(Kp)(ad)(Q)(s p bm)(v0 v1 v2)(x)(y0)(hS:C3 w v0 v1 v2 x)(hy0:x.2.1[0]? =some y0)(ks:o9 w s 44 [ptB p])(kp:o9 w p 46 [ptB bm])(bC:Kp s/\Kp p/\Kp w.heap.size/\(∀k,v0.ownBlock=some k->Kp k)/\∀k,v1.ownBlock=some k->Kp k)
  (hm:∀W,qL w W->qC 43 #[qP bm,qI y0] W (ox Kp ad Q W)) (hQ:∀cd W W',Q cd W->qL W W'->Q cd W'):
  qC 42 #[.agg #[v0,v1,v2],ptB s] w fun e w'=>∃cd,e= .returned (eV ad cd)/\Aside (Q cd w'):=by
 obtain ⟨a0,n0,q0,rfl⟩:∃a0 n0 q0,v0= .slice a0 n0 q0:=zA;obtain ⟨g1,c1,rfl,l1,h1⟩:=hS.aab (by have:=(uK.1 hy0).1;omega);have k0:=h1 0 y0 hy0;have b0:=(uK.1 hy0).1;generalize x.2.1.length=n1 at*;have lq:=bC.2.2.2.2 g1 rfl;obtain ⟨a2,n2,q2,rfl⟩:∃a0 n0 q0,v2= .slice a0 n0 q0:=zv;have hb0:qL w (w.alloc (.cells #[.slice a0 n0 q0,qG g1 n1 c1,.slice a2 n2 q2] 84)):=zh w _;have kb:=mq w [.slice a0 n0 q0,qG g1 n1 c1,.slice a2 n2 q2] 84;have dw:=(ks.later hb0 ks.lt).cell 0;have bZ:=(kp.later hb0 kp.lt).cell 0;have s0:=kb.cell 0;have s1:=kb.cell 1;have dR:=mu hb0 k0;simp only [Zb,Zf] at dw bZ s0 s1;have hc:=hm _ hb0.drew;have kz:=bC.2.2.1;unfold ptB at*;go_enter func42,ntmps42;exact ka3
theorem Fh(w)(Kp)(ad)(Q)(s p bm)(v0 v1 v2)(x)(y0)(hS:C3 w v0 v1 v2 x)(hy0:x.2.1[0]? =some y0)(ks:o9 w s 44 [ptB p])(kp:o9 w p 46 [ptB bm])(bC:Kp s/\Kp p/\Kp w.heap.size/\(∀k,v0.ownBlock=some k->Kp k)/\∀k,v1.ownBlock=some k->Kp k)
  (hm:∀W,qL w W->qC 45 #[qP bm,qI y0] W (ox Kp ad Q W)) (hQ:∀cd W W',Q cd W->qL W W'->Q cd W'):
  qC 44 #[.agg #[v0,v1,v2],ptB s] w fun e w'=>∃cd,e= .returned (eV ad cd)/\Aside (Q cd w'):=by
 obtain ⟨a0,n0,q0,rfl⟩:∃a0 n0 q0,v0= .slice a0 n0 q0:=zA;obtain ⟨g1,c1,rfl,l1,h1⟩:=hS.aab (by have:=(uK.1 hy0).1;omega);have k0:=h1 0 y0 hy0;have b0:=(uK.1 hy0).1;generalize x.2.1.length=n1 at*;have lq:=bC.2.2.2.2 g1 rfl;obtain ⟨a2,n2,q2,rfl⟩:∃a0 n0 q0,v2= .slice a0 n0 q0:=zv;have hb0:qL w (w.alloc (.cells #[.slice a0 n0 q0,qG g1 n1 c1,.slice a2 n2 q2] 84)):=zh w _;have kb:=mq w [.slice a0 n0 q0,qG g1 n1 c1,.slice a2 n2 q2] 84;have dw:=(ks.later hb0 ks.lt).cell 0;have bZ:=(kp.later hb0 kp.lt).cell 0;have s0:=kb.cell 0;have s1:=kb.cell 1;have dR:=mu hb0 k0;simp only [Zb,Zf] at dw bZ s0 s1;have hc:=hm _ hb0.drew;have kz:=bC.2.2.1;unfold ptB at*;go_enter func44,ntmps44;exact ka3
theorem LA(w)(Kp)(ad)(Q)(s p bm)(v0 v1 v2)(x)(y0 y1)(hS:C3 w v0 v1 v2 x)(hy0:x.1[0]? =some y0)(hy1:x.2.1[0]? =some y1)(ks:o9 w s 44 [ptB p])(kp:o9 w p 46 [ptB bm])(bC:Kp s/\Kp p/\Kp w.heap.size/\(∀k,v0.ownBlock=some k->Kp k)/\∀k,v1.ownBlock=some k->Kp k)
  (hm:∀W,qL w W->qC 47 #[qP bm,qI y0,qI y1] W (ox Kp ad Q W)) (hQ:∀cd W W',Q cd W->qL W W'->Q cd W'):
  qC 46 #[.agg #[v0,v1,v2],ptB s] w fun e w'=>∃cd,e= .returned (eV ad cd)/\Aside (Q cd w'):=by
 obtain ⟨g0,c0,rfl,l0,h0⟩:=hS.abH (by have:=(uK.1 hy0).1;omega);have k0:=h0 0 y0 hy0;have b0:=(uK.1 hy0).1;generalize x.1.length=n0 at*;have kq0:=bC.2.2.2.1 g0 rfl;obtain ⟨g1,c1,rfl,l1,h1⟩:=hS.aab (by have:=(uK.1 hy1).1;omega);have k1:=h1 0 y1 hy1;have b1:=(uK.1 hy1).1;generalize x.2.1.length=n1 at*;have lq:=bC.2.2.2.2 g1 rfl;obtain ⟨a2,n2,q2,rfl⟩:∃a0 n0 q0,v2= .slice a0 n0 q0:=zv;have hb0:qL w (w.alloc (.cells #[qG g0 n0 c0,qG g1 n1 c1,.slice a2 n2 q2] 84)):=zh w _;have kb:=mq w [qG g0 n0 c0,qG g1 n1 c1,.slice a2 n2 q2] 84;have dw:=(ks.later hb0 ks.lt).cell 0;have bZ:=(kp.later hb0 kp.lt).cell 0;have s0:=kb.cell 0;have s1:=kb.cell 1;have dR:=mu hb0 k0;have k1':=mu hb0 k1;simp only [Zb,Zf] at dw bZ s0 s1;have hc:=hm _ hb0.drew;have kz:=bC.2.2.1;unfold ptB at*;go_enter func46,ntmps46;go_upto_region 1 with fail;generalize w.alloc (.cells #[qG g0 n0 c0,qG g1 n1 c1,.slice a2 n2 q2] 84)=V at*;generalize w.heap.size=Sd at*;have CS:=(D9.refl Kp V).drew;refine lV (S:=D9 Kp V) zk CS (fun aa=> ?_);refine tk 0 CS ?_ (y:=ty yt);refine tk 1 CS ?_;refine tk 2 CS ?_;refine tk 3 CS ?_ (y:=ty yo);refine tk 4 CS ?_;refine tk 5 CS ?_ (y:=ty zR);refine tk 6 CS ?_;refine tk 7 CS ?_ (y:=ty yr);refine tk 8 CS ?_;refine tk 9 CS ?_ (y:=ty uE);refine tk 10 CS ?_;refine tk 11 CS ?_ (y:=ty (by intro w' ab;have q:=ab.cell (b:=g1) (o:=0) lq k1';clear ab;go_simp;try with_reducible rfl));exact kd3
theorem Jf(w)(Kp)(ad)(Q)(s p bm)(v0 v1 v2)(x)(y0)(hS:C3 w v0 v1 v2 x)(hy0:x.1[0]? =some y0)(ks:o9 w s 44 [ptB p])(kp:o9 w p 46 [ptB bm])(bC:Kp s/\Kp p/\Kp w.heap.size/\(∀k,v0.ownBlock=some k->Kp k)/\∀k,v1.ownBlock=some k->Kp k)
  (hm:∀W,qL w W->qC 49 #[qP bm,qI y0] W (ox Kp ad Q W)) (hQ:∀cd W W',Q cd W->qL W W'->Q cd W'):
  qC 48 #[.agg #[v0,v1,v2],ptB s] w fun e w'=>∃cd,e= .returned (eV ad cd)/\Aside (Q cd w'):=by
 obtain ⟨g0,c0,rfl,l0,h0⟩:=hS.abH (by have:=(uK.1 hy0).1;omega);have k0:=h0 0 y0 hy0;have b0:=(uK.1 hy0).1;generalize x.1.length=n0 at*;have kq0:=bC.2.2.2.1 g0 rfl;obtain ⟨a1,n1,q1,rfl⟩:∃a0 n0 q0,v1= .slice a0 n0 q0:=zL;obtain ⟨a2,n2,q2,rfl⟩:∃a0 n0 q0,v2= .slice a0 n0 q0:=zv;have hb0:qL w (w.alloc (.cells #[qG g0 n0 c0,.slice a1 n1 q1,.slice a2 n2 q2] 84)):=zh w _;have kb:=mq w [qG g0 n0 c0,.slice a1 n1 q1,.slice a2 n2 q2] 84;have dw:=(ks.later hb0 ks.lt).cell 0;have bZ:=(kp.later hb0 kp.lt).cell 0;have s0:=kb.cell 0;have s1:=kb.cell 1;have dR:=mu hb0 k0;simp only [Zb,Zf] at dw bZ s0 s1;have hc:=hm _ hb0.drew;have kz:=bC.2.2.1;unfold ptB at*;go_enter func48,ntmps48;go_upto_region 1 with fail;generalize w.alloc (.cells #[qG g0 n0 c0,.slice a1 n1 q1,.slice a2 n2 q2] 84)=V at*;generalize w.heap.size=Sd at*;have CS:=(D9.refl Kp V).drew;refine lV (S:=D9 Kp V) zk CS (fun aa=> ?_);refine tk 0 CS ?_ (y:=ty yt);refine tk 1 CS ?_;refine tk 2 CS ?_;refine tk 3 CS ?_ (y:=ty yo);refine tk 4 CS ?_;refine tk 5 CS ?_ (y:=ty zR);refine tk 6 CS ?_;refine tk 7 CS ?_ (y:=ty yr);refine an (i:=8) zk rfl (fun K hK=> ?_);go_simp;refine hc.mono ?_;rintro e w1 ⟨cd,rfl,H1⟩;have C1:=CS.trans H1.o.1;refine hK _ _ C1 ?_;obtain ⟨ev,a8⟩:=ze (eV ad cd);rw [<-a8.o];refine qn ?_;refine tk 9 C1 ?_;refine wpAnyH_done zk ?_ _;refine qn ?_;go_wp2;go_ret;exact ⟨cd,by rw [<-a8.o];rfl,H1.o.2⟩
theorem Fk(w)(s fn)(bs)(form)(v0 v1 v2)(x)(n0)(a)(R:Ending->World->Prop)(hS:C3 w v0 v1 v2 x)(hn:x.2.1[0]? =some n0)(ks:o9 w s 63 [.string form,clV fn bs])
  (hT:w.cell? (qB 5)=some (.iface 437 (.pointer (some a))))
  (eg:∀args w,(callFunc fn args).run prog w= .ok (.enter fn args) w)
  (hg:∀W,qL w W->Calls prog fn (#[.agg #[v0,v1,v2]]++(bs.map ptB).toArray) W fun e w'=>∃told ev,e=qT #[.string told,ev]/\Aside (R e w')):
  qC 83 #[.agg #[v0,v1,v2],ptB s] w fun e w'=>(n0=0/\Ku a w e w')\/(n0≠0/\∃told ev,e=qT #[.string told,ev]/\Aside (R e w')):=by
 obtain ⟨g1,c1,rfl,l1,h1⟩:=hS.aab (by have:=(uK.1 hn).1;omega);have k1:=h1 0 n0 hn
 have b1:(0:Int)<(x.2.1.length:Int):=by have:=(uK.1 hn).1;omega
 have b2:0<x.2.1.length:=zj;generalize x.2.1.length=n1 at*;obtain ⟨a0,m0,q0,rfl⟩:∃a0 n0 q0,v0= .slice a0 n0 q0:=zA;obtain ⟨a2,m2,q2,rfl⟩:∃a0 n0 q0,v2= .slice a0 n0 q0:=zv;have hb0:qL w (w.alloc (.cells #[.slice a0 m0 q0,qG g1 n1 c1,.slice a2 m2 q2] 84)):=zh w _;have k1':=mu hb0 k1;have f1:=(ks.later hb0 ks.lt).cell 1;have hT1:=mu hb0 hT;simp only [Zb,Zf] at f1;have hc:=hg _ hb0;have HB:Aside _:=hb0;unfold clV at f1;generalize (bs.map ptB).toArray=cs at f1 hc;unfold ptB;by_cases h0:n0=0
 ·subst h0;go_enter func83,ntmps83;go_upto_region 2 with fail;go_region
  all_goals (go_wp2;go_ret2;exact .inl ⟨trivial,rfl,HB.o.drew⟩)
 have d1:(n0==0)=false:=by simpa using h0
 go_enter func83,ntmps83;go_wp2_with fail;refine hc.mono ?_;rintro e w1 ⟨told,ev,rfl,HR⟩;go_wp2;go_ret2;exact .inr ⟨h0,told,ev,rfl,HR.o⟩
end
section
open RowKit Lib Go.Sort
def zec(w:qW)(o:qY)(w':qW):Prop:=o.size<=1000/\qL w w'
def zea(w:qW)(e:Ending)(w':qW):Prop:=∃(s:qY) (is:Bool),e=qT #[.string s,.bool is]/\Aside (s.size<=1000/\qL w w')
theorem GN(o u:qY):(o++⟨#[32]⟩++u).size=o.size+1+u.size:=by rw [YR,YR];rfl
theorem Rc(l:qU):Aside ((⟨l.toArray⟩:qY).size=l.length):=by show _=_;rw [Lib.size_eq]
theorem DM(s:qY)(k:Nat)(hk:k<s.size)(c:Nat)(_hc:c<256):((s[k].toNat:Int)==(c:Int))=decide (s[k].toNat=c):=by
 grind
theorem MB(w)(wd)(na wa)(nc wc)(xs)(ws)(hwd:wd.size<=60)(hx:xs.length<=5)(hw:ws.length<=3)(hws:∀u∈ws,u.size<=60)(hxi:∀x∈xs,-9223372036854775808<=x/\x<=9223372036854775807)(h1:aam w na xs)(h2:F5 w wa ws):
  qC 11 #[.agg #[.string wd,.slice na xs.length nc,.slice wa ws.length wc]] w (zea w):=by
 have H0:Aside (aam w na xs/\F5 w wa ws/\(∀u∈ws,u.size<=60)/\∀x∈xs,-9223372036854775808<=x/\x<=9223372036854775807):=⟨h1,h2,hws,hxi⟩
 obtain ⟨W,hW⟩:=za (w.alloc (.cells #[.string wd,.slice na xs.length nc,.slice wa ws.length wc] 37));obtain ⟨S,hS⟩:=ze w.heap.size
 have c0:W.cell? (qB S)=some (.string wd):=by rw [hW,hS.o,Ym _ _ _ _ rfl];rfl
 have c1:W.cell? (qA S 1)=some (.slice na xs.length nc):=by rw [hW,hS.o,Ym _ _ _ _ rfl];rfl
 have c2:W.cell? (qA S 2)=some (.slice wa ws.length wc):=by rw [hW,hS.o,Ym _ _ _ _ rfl];rfl
 have HW:Aside (qL w W):=by rw [hW];exact zh w _
 have iA:=Me wd W;go_enter func11,ntmps11;go_upto_region 1 with fail;rw [<-hW,<-hS.o];clear hW;go_wp2_with fail;refine iA.mono ?_;rintro e w1 ⟨f,is,rfl,H1⟩;obtain ⟨hf4,-,rfl⟩:=H1.o
 cases is with
 | false=>
  go_wp2;go_ret2;exact ⟨_,_,rfl,zo,HW.o⟩
 | true=>
  have HC:Aside (w1.cell? (qA S 1)=some (.slice na xs.length nc)/\w1.cell? (qA S 2)=some (.slice wa ws.length wc)):=⟨c1,c2⟩
  go_wp2;go_loopg [6,7,8,9] f.size (fun kx s6 s7 s8 s9 wr=>∃(o:qY) (n v k:Nat),s6= .string o/\s7=qN n/\s8=qN v/\s9=qN k/\n<=xs.length/\v<=ws.length/\k<=f.size/\f.size - k<=kx/\o.size<=60+100*k/\Aside (qL w1 wr))
  case atStart=>exact ⟨wd,0,0,0,rfl,rfl,rfl,rfl,uW _,uW _,uW _,uM _,zj,uO _ _⟩
  case round=>
   obtain ⟨o,n,v,k,rfl,rfl,rfl,rfl,hn,hv,hk,aY,ho,A⟩:=hrel;have c1:=mZ A.o HC.o.1;have c2:=mZ A.o HC.o.2;have HB:Aside (qL w wr):=zi HW.o A.o;by_cases hlt:k<f.size
   ·have aq:qlt k f.size=true:=by simp;omega
    have ek:((k:Int)).toNat=k:=zj;have i100:((f[k].toNat:Int)==100)=decide (f[k].toNat=100):=DM f k hlt 100 zj;have lu:((f[k].toNat:Int)==110)=decide (f[k].toNat=110):=DM f k hlt 110 zj;have i119:((f[k].toNat:Int)==119)=decide (f[k].toNat=119):=DM f k hlt 119 zj;have lv:((f[k].toNat:Int)==108)=decide (f[k].toNat=108):=DM f k hlt 108 zj;by_cases h100:f[k].toNat=100
    ·rw [decide_eq_true h100] at i100;rw [decide_eq_false zj] at lu;by_cases hnl:n<xs.length
     ·have dn:decide ((xs.length:Int)<=(n:Int))=false:=by simp;omega
      have dnn:decide (xs.length<=n)=false:=zl;have en:((n:Int)).toNat=n:=zj;have pn:(0:Int)<=(n:Int):=zj;have bn:(n:Int)<(xs.length:Int):=zj
      obtain ⟨x,bD⟩:∃x,Aside (xs[n]? =some x):=⟨xs[n],uL hnl⟩
      obtain ⟨g,p,e1,r1⟩:=H0.o.1 n x bD.o;subst e1;have z1:=mu HB.o r1;by_cases hneg:x<0
      ·have dx:decide (x<0)=true:=by simp;omega
       exact kb8
      have dx:decide (x<0)=false:=zl;by_cases hmo:2<x
      ·have dm:decide ((2:Int)<x)=true:=by simp;omega
       exact kb8
      have dm:decide ((2:Int)<x)=false:=zl;have hdec:=DO x wr zj zj;have bl:=Lib.itoa_length_le x zj zj;have n1:¬9223372036854775807<o.size+1:=zj;have n2:¬9223372036854775807<o.size+1+(Lib.itoa x).length:=zj;have jB:=Rc (Lib.itoa x);obtain ⟨u1,cw⟩:=za wr;subst cw;go_wp2_with fail;refine hdec.mono ?_;rintro e w2 ⟨rfl,hb2⟩;have H2:Aside (qL w1 w2):=zi A.o hb2;go_wp2;go_roundg (f.size - (k+1))
      case measure=>omega
      case rel=>exact ⟨o++⟨#[32]⟩++⟨(Lib.itoa x).toArray⟩,n+1,v,k+1,rfl,zJ,rfl,zJ,zj,hv,zj,uM _,by rw [GN,jB.o];omega,H2.o⟩
     have dn:decide ((xs.length:Int)<=(n:Int))=true:=zl;have dnn:decide (xs.length<=n)=true:=zl;exact kb8
    rw [decide_eq_false h100] at i100;by_cases h110:f[k].toNat=110
    ·rw [decide_eq_true h110] at lu;by_cases hnl:n<xs.length
     ·have dn:decide ((xs.length:Int)<=(n:Int))=false:=by simp;omega
      have dnn:decide (xs.length<=n)=false:=zl;have en:((n:Int)).toNat=n:=zj;have pn:(0:Int)<=(n:Int):=zj;have bn:(n:Int)<(xs.length:Int):=zj
      obtain ⟨x,bD⟩:∃x,Aside (xs[n]? =some x):=⟨xs[n],uL hnl⟩
      obtain ⟨g,p,e1,r1⟩:=H0.o.1 n x bD.o;subst e1;have z1:=mu HB.o r1;by_cases hneg:x<0
      ·have dx:decide (x<0)=true:=by simp;omega
       exact kb8
      have dx:decide (x<0)=false:=zl;by_cases hmo:9999999<x
      ·have dm:decide ((9999999:Int)<x)=true:=by simp;omega
       exact kb8
      have dm:decide ((9999999:Int)<x)=false:=zl;have hdec:=DO x wr zj zj;have bl:=Lib.itoa_length_le x zj zj;have n1:¬9223372036854775807<o.size+1:=zj;have n2:¬9223372036854775807<o.size+1+(Lib.itoa x).length:=zj;have jB:=Rc (Lib.itoa x);obtain ⟨u1,cw⟩:=za wr;subst cw;go_wp2_with fail;refine hdec.mono ?_;rintro e w2 ⟨rfl,hb2⟩;have H2:Aside (qL w1 w2):=zi A.o hb2;go_wp2;go_roundg (f.size - (k+1))
      case measure=>omega
      case rel=>exact ⟨o++⟨#[32]⟩++⟨(Lib.itoa x).toArray⟩,n+1,v,k+1,rfl,zJ,rfl,zJ,zj,hv,zj,uM _,by rw [GN,jB.o];omega,H2.o⟩
     have dn:decide ((xs.length:Int)<=(n:Int))=true:=zl;have dnn:decide (xs.length<=n)=true:=zl;exact kb8
    rw [decide_eq_false h110] at lu;by_cases hvl:v<ws.length
    ·have dv:decide ((ws.length:Int)<=(v:Int))=false:=by simp;omega
     have dvn:decide (ws.length<=v)=false:=zl;have ev:((v:Int)).toNat=v:=zj;have pv:(0:Int)<=(v:Int):=zj;have bv:(v:Int)<(ws.length:Int):=zj
     obtain ⟨u,hu⟩:∃u,Aside (ws[v]? =some u):=⟨ws[v],uL hvl⟩
     obtain ⟨g,p,e1,_,r1⟩:=H0.o.2.1 v u hu.o;subst e1;have z1:=mu HB.o r1;have hu60:u.size<=60:=H0.o.2.2.1 u (uR hu.o);obtain ⟨nm,dr⟩:=ze (mr u.data.toList);have aR:=Od u wr zj;rw [<-dr.o] at aR;obtain ⟨u1,cw⟩:=za wr;subst cw;go_wp2_with fail;refine aR.mono ?_;rintro e w2 ⟨rfl,hw2⟩;obtain rfl:u1=w2:=hw2.symm;by_cases h119:f[k].toNat=119
     ·rw [decide_eq_true h119] at i119;rw [decide_eq_false zj] at lv
      cases nm with
      | false=>
       exact kb8
      | true=>
       go_wp2;go_loopg [13] u.size (fun ky gO wy=>∃j:Nat,gO=qN j/\j<=u.size/\u.size - j<=ky/\wy=u1)
       case atStart=>exact ⟨0,rfl,uW _,uM _,rfl⟩
       case round=>
        obtain ⟨j,rfl,hj,hjy,lA⟩:=hrel;subst lA;by_cases hju:j<u.size
        ·have dj:qlt j u.size=true:=by simp;omega
         have ej:((j:Int)).toNat=j:=zj;have i32:((u[j].toNat:Int)==32)=decide (u[j].toNat=32):=DM u j hju 32 zj;by_cases kT:u[j].toNat=32
         ·rw [decide_eq_true kT] at i32;exact kb8
         rw [decide_eq_false kT] at i32;go_wp2;go_roundg (u.size - (j+1))
         case measure=>omega
         case rel=>exact ⟨j+1,zJ,zj,uM _,rfl⟩
        have dj:qlt j u.size=false:=zl;have n1:¬9223372036854775807<o.size+1:=zj;have n2:¬9223372036854775807<o.size+1+u.size:=zj;go_wp2;go_roundg (f.size - (k+1))
        case measure=>omega
        case rel=>exact ⟨o++⟨#[32]⟩++u,n,v+1,k+1,rfl,rfl,zJ,zJ,hn,zj,zj,uM _,by rw [GN];omega,A.o⟩
     rw [decide_eq_false h119] at i119;by_cases h108:f[k].toNat=108
     ·rw [decide_eq_true h108] at lv;by_cases h1:u.size=1
      ·have du:((u.size:Int)==1)=true:=by simp;omega
       have dun:((u.size:Int) !=1)=false:=zl;go_wp2;go_loopg [13] u.size (fun ky gO wy=>∃j:Nat,gO=qN j/\j<=u.size/\u.size - j<=ky/\wy=u1)
       case atStart=>exact ⟨0,rfl,uW _,uM _,rfl⟩
       case round=>
        obtain ⟨j,rfl,hj,hjy,lA⟩:=hrel;subst lA;by_cases hju:j<u.size
        ·have dj:qlt j u.size=true:=by simp;omega
         have ej:((j:Int)).toNat=j:=zj;have i32:((u[j].toNat:Int)==32)=decide (u[j].toNat=32):=DM u j hju 32 zj;by_cases kT:u[j].toNat=32
         ·rw [decide_eq_true kT] at i32;exact kb8
         rw [decide_eq_false kT] at i32;go_wp2;go_roundg (u.size - (j+1))
         case measure=>omega
         case rel=>exact ⟨j+1,zJ,zj,uM _,rfl⟩
        have dj:qlt j u.size=false:=zl;have n1:¬9223372036854775807<o.size+1:=zj;have n2:¬9223372036854775807<o.size+1+u.size:=zj;go_wp2;go_roundg (f.size - (k+1))
        case measure=>omega
        case rel=>exact ⟨o++⟨#[32]⟩++u,n,v+1,k+1,rfl,rfl,zJ,zJ,hn,zj,zj,uM _,by rw [GN];omega,A.o⟩
      have du:((u.size:Int)==1)=false:=zl;have dun:((u.size:Int) !=1)=true:=zl;exact kb8
     rw [decide_eq_false h108] at lv;go_wp2;go_loopg [13] u.size (fun ky gO wy=>∃j:Nat,gO=qN j/\j<=u.size/\u.size - j<=ky/\wy=u1)
     case atStart=>exact ⟨0,rfl,uW _,uM _,rfl⟩
     case round=>
      obtain ⟨j,rfl,hj,hjy,lA⟩:=hrel;subst lA;by_cases hju:j<u.size
      ·have dj:qlt j u.size=true:=by simp;omega
       have ej:((j:Int)).toNat=j:=zj;have i32:((u[j].toNat:Int)==32)=decide (u[j].toNat=32):=DM u j hju 32 zj;by_cases kT:u[j].toNat=32
       ·rw [decide_eq_true kT] at i32;exact kb8
       rw [decide_eq_false kT] at i32;go_wp2;go_roundg (u.size - (j+1))
       case measure=>omega
       case rel=>exact ⟨j+1,zJ,zj,uM _,rfl⟩
      have dj:qlt j u.size=false:=zl;have n1:¬9223372036854775807<o.size+1:=zj;have n2:¬9223372036854775807<o.size+1+u.size:=zj;go_wp2;go_roundg (f.size - (k+1))
      case measure=>omega
      case rel=>exact ⟨o++⟨#[32]⟩++u,n,v+1,k+1,rfl,rfl,zJ,zJ,hn,zj,zj,uM _,by rw [GN];omega,A.o⟩
    have dv:decide ((ws.length:Int)<=(v:Int))=true:=zl;have dvn:decide (ws.length<=v)=true:=zl;exact kb8
   have aq:qlt k f.size=false:=zl
   have HF:Aside (zec w o wr):=⟨zj,HB.o⟩
   by_cases q1:n=xs.length
   ·have d1:((n:Int)==(xs.length:Int))=true:=by simp;omega
    have dg:(n==xs.length)=true:=zl;exact kk4
   have d1:((n:Int)==(xs.length:Int))=false:=zl;have dg:(n==xs.length)=false:=zl;exact kk4

end