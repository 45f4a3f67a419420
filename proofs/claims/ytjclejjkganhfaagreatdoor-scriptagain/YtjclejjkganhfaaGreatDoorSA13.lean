import Derived.Test.YtjclejjkganhfaaGreatDoorSA06
import Derived.Test.YtjclejjkganhfaaGreatDoorSA07
import Derived.Test.YtjclejjkganhfaaGreatDoorSA08
set_option linter.unusedSimpArgs false
set_option linter.unusedVariables false
set_option maxRecDepth 100000
set_option maxHeartbeats 64000000
namespace Go.Proofs.YtjclejjkganhfaaGreatDoor
open Go.Proofs.Tryz
section
open RowKit
theorem pm(s)(n)(w)(h:pq 10 s.data.toList=some n):qC 150 #[.string s,qI 10] w fun e w'=>e=qT #[qN n,.bool true]/\w'=w:=by
 have:=Ce 10 zo s w;rw [h] at this;exact this
theorem rV(s)(w)(h:pq 10 s.data.toList=none):qC 150 #[.string s,qI 10] w fun e w'=>e=qT #[qI 0,.bool false]/\w'=w:=by
 have:=Ce 10 zo s w;rw [h] at this;exact this
theorem Vq(s)(v)(w)(hs:s.size<=1000000)(h:nV s.data.toList=some v):qC 372 #[.string s] w (qR (.tuple #[.string ⟨v.toArray⟩,.bool true]) w):=by
 have:=Cb s w hs;rw [h] at this;exact this
theorem WW(s)(w)(hs:s.size<=1000000)(h:nV s.data.toList=none):qC 372 #[.string s] w (qR (.tuple #[.string ⟨#[]⟩,.bool false]) w):=by
 have:=Cb s w hs;rw [h] at this;exact this
theorem zcr(c)(x)(q)(h:q∈hd [c] x):q.length<=1\/∃r∈x,q.length<=r.length+1:=by
 cases x with
 | nil=>simp [hd] at h;simp_all
 | cons p ps=>
  grind [hd]
theorem ND(p)(l q)(h:q∈nk p l):q.length<=l.length:=by
 induction l generalizing q with
 | nil=>simp [nk] at h;subst h;simp
 | cons c r ih=>
  grind [wg,oO,zcr]
theorem Qu(s)(m)(w)(hs:s.size<=1000000)(hm:w.cell? (qB 14)=some (qI m)):
  qC 68 #[.string s,.string ⟨#[124]⟩,qI 9] w fun e w'=>∃(P:List ByteArray) (cap g:Nat),e= .returned (qG g P.length cap)/\w.heap.size<=g/\P.length<=cap/\(∀(j:Nat) p,P[j]? =some p->w'.cell? (qA g j)=some (.string p))/\
   ((nk 124 s.data.toList).length=8->P.map (·.data.toList)=nk 124 s.data.toList)/\((nk 124 s.data.toList).length≠8->P.length≠8)/\qL w w':=by
 refine (Tryz.strings_SplitN s ⟨#[124]⟩ 9 m w zj hm zo zo zo).mono ?_;rintro e w' ⟨rfl,rfl⟩;have hl:s.data.toList.length=s.size:=zq;have hd:(Lib.splitB ⟨#[124]⟩ 0 (min 9 (s.size+1) - 1) s).map (·.data.toList)=Lib.splitK [124] 0 (min 9 (s.size+1) - 1) s.data.toList:=Lib.splitB_data ⟨#[124]⟩ 0 _ s;have hn:=Fu 124 s.data.toList (min 9 (s.size+1) - 1);have hle:=DG 124 s.data.toList;rw [hl] at hle
 have hlen:(Lib.splitB ⟨#[124]⟩ 0 (min 9 (s.size+1) - 1) s).length=min (min 9 (s.size+1) - 1+1) (nk 124 s.data.toList).length:=by
  have:=congrArg List.length hd;rw [Zj] at this;rw [this,hn]
 refine ⟨_,_,_,rfl,uM _,by rw [hlen];omega,?_,fun h4=> ?_,fun h4=>by rw [hlen];omega,zh _ _⟩
 ·intro j p hj;have hj2:=(uK.1 hj).1;rw [Ym _ _ _ _ rfl];unfold Lib.cellsOf;rw [List.getElem?_toArray,Yh (by simpa using hj2),ZQ,hj];rfl
 rw [hd];exact RP _ _ _ zj
structure aac (w0:qW) (w:qW):Prop where
 z:Q5 w w0.heap.size 0 0 0 0 0 0 ⟨#[]⟩ ⟨#[]⟩
 f0:w.frozen? (qB w0.heap.size)=false
 f1:w.frozen? (qA w0.heap.size 1)=false
 f2:w.frozen? (qA w0.heap.size 2)=false
 f3:w.frozen? (qA w0.heap.size 3)=false
 f4:w.frozen? (qA w0.heap.size 4)=false
 f5:w.frozen? (qA w0.heap.size 5)=false
 f6:w.frozen? (qA w0.heap.size 6)=false
 f7:w.frozen? (qA w0.heap.size 7)=false
 b:qL w0 w
theorem nJ{w w'}{b o}{v}(hb:qL w w')(hz:b<w.heap.size)(h:w.frozen? (qA b o)=v):w'.frozen? (qA b o)=v:=by
 rw [hb.frozen (p:=(qA b o)) hz];exact h
theorem aac.lt{w0 w}(h:aac w0 w):w0.heap.size<w.heap.size:=uP w (qB w0.heap.size) h.z.c0
theorem aac.later{w0 w w'}(h:aac w0 w)(hb:qL w w'):aac w0 w':=
 ⟨h.z.later hb,nJ hb h.lt h.f0,nJ hb h.lt h.f1,nJ hb h.lt h.f2,nJ hb h.lt h.f3,nJ hb h.lt h.f4,nJ hb h.lt h.f5,nJ hb h.lt h.f6,nJ hb h.lt h.f7,zi h.b hb⟩
theorem aac.GA(w)(T):aac w (w.alloc (.cells qZa T)):=by
 refine ⟨by constructor<;>simp [go_sem],?_,?_,?_,?_,?_,?_,?_,?_,zh _ _⟩<;>simp [go_sem]
def tZ(r:Option zbr):Value:=match r with
 | none=>.agg qZa
 | some (c,n1,n2,n3,n4,n5,nm,v)=>.agg #[qN n1,qN n2,qN n3,.int .u8 (c.toNat:Int),qN n4,qN n5,.string ⟨nm.toArray⟩,.string ⟨v.toArray⟩]
theorem OP(s)(w)(hs:s.size<=1000000)(m)(hm:w.cell? (qB 14)=some (qI m))(h8:(nk 124 s.data.toList).length≠8):
  qC 344 #[.string s] w (qR (.tuple #[tZ (nQ s.data.toList),.bool (nQ s.data.toList).isSome]) w):=by
 have R0:=aac.GA w 88;have HM:=Lib.hid (lT ((uO w.heap.size w).alloc zg qZc) hm);have H8:=Lib.hid h8;have HE:=Lib.hid (NP h8)
 generalize nQ s.data.toList=R at HE |-
 go_enter func344,ntmps344;go_wp2_with fail;refine (Qu s m _ hs HM.o).mono ?_;rintro e w1 ⟨P,cap,g,rfl,hg,hcap,hc,h4e,h4n,hb⟩;have R1:=R0.later hb;have hne:=h4n H8.o;have d8:((P.length:Int) !=8)=true:=zl;obtain ⟨⟨c0,c1,c2,c3,c4,c5,c6,c7⟩,f0,f1,f2,f3,f4,f5,f6,f7,B1⟩:=R1;go_wp2;refine bodyPost_ret (v:=.tuple #[.agg qZa,.bool false]) yi rfl ⟨by rw [HE.o];rfl,?_⟩;exact kb4
theorem Nz(s)(w)(hs:s.size<=1000000)(m)(hm:w.cell? (qB 14)=some (qI m))(l0 l1 l2 l3 l4 l5 l6 l7)(h8:nk 124 s.data.toList= [l0,l1,l2,l3,l4,l5,l6,l7])(h0:l0.length≠1):
  qC 344 #[.string s] w (qR (.tuple #[tZ (nQ s.data.toList),.bool (nQ s.data.toList).isSome]) w):=by
 have R0:=aac.GA w 88;have HM:=Lib.hid (lT ((uO w.heap.size w).alloc zg qZc) hm);have HE:=Lib.hid (JE h8 h0)
 generalize nQ s.data.toList=R at HE |-
 have H8:=Lib.hid h8;go_enter func344,ntmps344;go_wp2_with fail;refine (Qu s m _ hs HM.o).mono ?_;rintro e w1 ⟨P,cap,g,rfl,hg,hcap,hc,h4e,h4n,hb⟩;have R1:=R0.later hb;have hP:=h4e (by rw [H8.o];rfl);rw [H8.o] at hP
 obtain ⟨p0,p1,p2,p3,p4,p5,p6,p7,rfl,e0,e1,e2,e3,e4,e5,e6,e7⟩:∃p0 p1 p2 p3 p4 p5 p6 p7,P= [p0,p1,p2,p3,p4,p5,p6,p7]/\p0.data.toList=l0/\p1.data.toList=l1/\p2.data.toList=l2/\p3.data.toList=l3/\p4.data.toList=l4/\p5.data.toList=l5/\p6.data.toList=l6/\p7.data.toList=l7:=by
  have hlen:P.length=8:=vH
  match P,hlen,hP with
  | [a0,a1,a2,a3,a4,a5,a6,a7],_,hP=>simp at hP;exact ⟨a0,a1,a2,a3,a4,a5,a6,a7,rfl,hP⟩
 have cU:p0.size=l0.length:=by rw [<-e0];simp
 have d1:((p0.size:Int) !=1)=true:=zl;obtain ⟨⟨c0,c1,c2,c3,c4,c5,c6,c7⟩,f0,f1,f2,f3,f4,f5,f6,f7,B1⟩:=R1;go_wp2;refine bodyPost_ret (v:=.tuple #[.agg qZa,.bool false]) yi rfl ⟨by rw [HE.o];rfl,?_⟩;exact kb4
abbrev Y1(kn g n1 n2 n3 n4 n5:Nat)(c:UInt8)(p6:qY)(w':qW):Prop:=w'.cell? (qB kn)=some (qN n1)/\w'.cell? (qA kn 1)=some (qN n2)/\w'.cell? (qA kn 2)=some (qN n3)/\w'.cell? (qA kn 3)=some (qN n4)/\w'.cell? (qA kn 4)=some (qN n5)/\w'.cell? (qB g)=some (.string ⟨#[c]⟩)/\w'.cell? (qA g 6)=some (.string p6)
theorem Y1.drew{kn g n1 n2 n3 n4 n5}{c}{p6}{w}(h:Y1 kn g n1 n2 n3 n4 n5 c p6 w):Y1 kn g n1 n2 n3 n4 n5 c p6 w.drew:=h
theorem Y1.set{kn g n1 n2 n3 n4 n5 a o}{c}{p6}{w}{v}(h1:a≠kn)(h2:a≠g)(h:Y1 kn g n1 n2 n3 n4 n5 c p6 w):Y1 kn g n1 n2 n3 n4 n5 c p6 (w.setCell (qA a o) v):=by
 simp_all [Zs,congrArg,Y1]
theorem Y1.abU{kn g n1 n2 n3 n4 n5 a o0 o1 o2 o3 o4 o5 o6 o7}{c}{p6}{w}{v0 v1 v2 v3 v4 v5 v6 v7}(h1:a≠kn)(h2:a≠g)(h:Y1 kn g n1 n2 n3 n4 n5 c p6 w):
  Y1 kn g n1 n2 n3 n4 n5 c p6 ((((((((w.setCell (qA a o0) v0).setCell (qA a o1) v1).setCell (qA a o2) v2).setCell (qA a o3) v3).setCell (qA a o4) v4).setCell (qA a o5) v5).setCell (qA a o6) v6).setCell (qA a o7) v7):=
 ((((((((h.set h1 h2).set h1 h2).set h1 h2).set h1 h2).set h1 h2).set h1 h2).set h1 h2).set h1 h2)
theorem Ic(s)(w)(hs:s.size<=1000000)(m)(hm:w.cell? (qB 14)=some (qI m))(c)(l1 l2 l3 l4 l5 l6 l7)(h8:nk 124 s.data.toList= [[c],l1,l2,l3,l4,l5,l6,l7]):
  qC 344 #[.string s] w (qR (.tuple #[tZ (nQ s.data.toList),.bool (nQ s.data.toList).isSome]) w):=by
 have R0:=aac.GA w 88;have HM:=Lib.hid (lT ((uO w.heap.size w).alloc zg qZc) hm);have HR:=Lib.hid (BZ h8)
 generalize nQ s.data.toList=R at HR |-
 have H8:=Lib.hid h8;go_enter func344,ntmps344;go_wp2_with fail;refine (Qu s m _ hs HM.o).mono ?_;rintro e w1 ⟨P,cap,g,rfl,hg,hcap,hc,h4e,h4n,hb⟩;have R1:=R0.later hb;have hP:=h4e (by rw [H8.o];rfl);rw [H8.o] at hP
 obtain ⟨p0,p1,p2,p3,p4,p5,p6,p7,rfl,e0,e1,e2,e3,e4,e5,e6,e7⟩:∃p0 p1 p2 p3 p4 p5 p6 p7,P= [p0,p1,p2,p3,p4,p5,p6,p7]/\p0.data.toList= [c]/\p1.data.toList=l1/\p2.data.toList=l2/\p3.data.toList=l3/\p4.data.toList=l4/\p5.data.toList=l5/\p6.data.toList=l6/\p7.data.toList=l7:=by
  have hlen:P.length=8:=vH
  match P,hlen,hP with
  | [a0,a1,a2,a3,a4,a5,a6,a7],_,hP=>simp at hP;exact ⟨a0,a1,a2,a3,a4,a5,a6,a7,rfl,hP⟩
 have cU:p0.size=1:=by rw [<-oq,e0];rfl
 have hl7:p7.size<=1000000:=by
  have:=ND 124 s.data.toList l7 (by rw [H8.o];simp);rw [<-oq,e7];have:=oq s;omega
 have iT:p0=⟨#[c]⟩:=by
  have:p0.data= #[c]:=by rw [<-Array.toArray_toList (xs:=p0.data),e0]
  cases p0;simp_all
 subst iT
 have k0:∀o,(w1.alloc o).cell? (qB g)=some (.string ⟨#[c]⟩):=fun o=>lT ((uO _ _).alloc zg o) (hc 0 _ rfl)
 have k1:∀o,(w1.alloc o).cell? (qA g 1)=some (.string p1):=fun o=>lT ((uO _ _).alloc zg o) (hc 1 _ rfl)
 have k2:∀o,(w1.alloc o).cell? (qA g 2)=some (.string p2):=fun o=>lT ((uO _ _).alloc zg o) (hc 2 _ rfl)
 have k3:∀o,(w1.alloc o).cell? (qA g 3)=some (.string p3):=fun o=>lT ((uO _ _).alloc zg o) (hc 3 _ rfl)
 have k4:∀o,(w1.alloc o).cell? (qA g 4)=some (.string p4):=fun o=>lT ((uO _ _).alloc zg o) (hc 4 _ rfl)
 have k5:∀o,(w1.alloc o).cell? (qA g 5)=some (.string p5):=fun o=>lT ((uO _ _).alloc zg o) (hc 5 _ rfl)
 have k6:∀o,(w1.alloc o).cell? (qA g 6)=some (.string p6):=fun o=>lT ((uO _ _).alloc zg o) (hc 6 _ rfl)
 have k7:∀o,(w1.alloc o).cell? (qA g 7)=some (.string p7):=fun o=>lT ((uO _ _).alloc zg o) (hc 7 _ rfl)
 have C:=fun o=>R1.later ((uO _ _).alloc zg o)
 have c0:=fun o=>(C o).z.c0
 have c1:=fun o=>(C o).z.c1
 have c2:=fun o=>(C o).z.c2
 have c3:=fun o=>(C o).z.c3
 have c4:=fun o=>(C o).z.c4
 have c5:=fun o=>(C o).z.c5
 have c6:=fun o=>(C o).z.c6
 have c7:=fun o=>(C o).z.c7
 have f0:=fun o=>(C o).f0
 have f1:=fun o=>(C o).f1
 have f2:=fun o=>(C o).f2
 have f3:=fun o=>(C o).f3
 have f4:=fun o=>(C o).f4
 have f5:=fun o=>(C o).f5
 have f6:=fun o=>(C o).f6
 have f7:=fun o=>(C o).f7
 have BB:=fun o=>(C o).b
 have HB:=Lib.hid BB
 have ne1:¬w1.heap.size=w.heap.size:=by have:=R1.lt;omega
 have ne2:w.heap.size≠w1.heap.size:=zj
 have ne3:w.heap.size≠g:=by simp at hg;omega
 subst e1 e2 e3 e4 e5 e6 e7;go_wp2;refine wp_loop_rounds 6 ?_;rw [rounds_succ];go_wp2_with fail
 cases fZ:pq 10 p1.data.toList with
 | none=>
  have HE:Hid (R=none):=Lib.hid (by rw [HR.o,DK];simp only [fZ]);refine (rV p1 _ fZ).mono ?_;exact ka4
 | some n1=>
  refine (pm p1 n1 _ fZ).mono ?_;rintro e w' ⟨rfl,hw⟩;subst hw;go_wp2;rw [rounds_succ];go_wp2_with fail
  cases kR:pq 10 p2.data.toList with
  | none=>
   have HE:Hid (R=none):=Lib.hid (by rw [HR.o,DK];simp only [fZ,kR]);refine (rV p2 _ kR).mono ?_;exact ka4
  | some n2=>
   refine (pm p2 n2 _ kR).mono ?_;rintro e w' ⟨rfl,hw⟩;subst hw;go_wp2;rw [rounds_succ];go_wp2_with fail
   cases hN3:pq 10 p3.data.toList with
   | none=>
    have HE:Hid (R=none):=Lib.hid (by rw [HR.o,DK];simp only [fZ,kR,hN3]);refine (rV p3 _ hN3).mono ?_;exact ka4
   | some n3=>
    refine (pm p3 n3 _ hN3).mono ?_;rintro e w' ⟨rfl,hw⟩;subst hw;go_wp2;rw [rounds_succ];go_wp2_with fail
    cases kP:pq 10 p4.data.toList with
    | none=>
     have HE:Hid (R=none):=Lib.hid (by rw [HR.o,DK];simp only [fZ,kR,hN3,kP]);refine (rV p4 _ kP).mono ?_;exact ka4
    | some n4=>
     refine (pm p4 n4 _ kP).mono ?_;rintro e w' ⟨rfl,hw⟩;subst hw;go_wp2;rw [rounds_succ];go_wp2_with fail
     cases hN5:pq 10 p5.data.toList with
     | none=>
      have HE:Hid (R=none):=Lib.hid (by rw [HR.o,DK];simp only [fZ,kR,hN3,kP,hN5]);refine (rV p5 _ hN5).mono ?_;exact ka4
     | some n5=>
      refine (pm p5 n5 _ hN5).mono ?_;rintro e w' ⟨rfl,hw⟩;subst hw;go_wp2;rw [rounds_succ];go_wp2_with fail;have R2:aac w (w1.alloc (.cells #[qN n1,qN n2,qN n3,qN n4,qN n5] 427)):=R1.later (zh _ _);have m0:(w1.alloc (.cells #[qN n1,qN n2,qN n3,qN n4,qN n5] 427)).cell? (qB w1.heap.size)=some (qN n1):=zY;have m1:(w1.alloc (.cells #[qN n1,qN n2,qN n3,qN n4,qN n5] 427)).cell? (qA w1.heap.size 1)=some (qN n2):=zY;have m2:(w1.alloc (.cells #[qN n1,qN n2,qN n3,qN n4,qN n5] 427)).cell? (qA w1.heap.size 2)=some (qN n3):=zY;have m3:(w1.alloc (.cells #[qN n1,qN n2,qN n3,qN n4,qN n5] 427)).cell? (qA w1.heap.size 3)=some (qN n4):=zY;have m4:(w1.alloc (.cells #[qN n1,qN n2,qN n3,qN n4,qN n5] 427)).cell? (qA w1.heap.size 4)=some (qN n5):=zY;have j0:=k0 (.cells #[qN n1,qN n2,qN n3,qN n4,qN n5] 427);have j6:=k6 (.cells #[qN n1,qN n2,qN n3,qN n4,qN n5] 427)
      generalize w1.alloc (.cells #[qN n1,qN n2,qN n3,qN n4,qN n5] 427)=w2 at R2 m0 m1 m2 m3 m4 j0 j6 |-
      cases hX:nV p7.data.toList with
      | none=>
       have HE:Hid (R=none):=Lib.hid vg;refine (WW p7 _ hl7 hX).mono ?_;rintro e w3 ⟨rfl,hb⟩;have R3:=R2.later hb;obtain ⟨⟨c0,c1,c2,c3,c4,c5,c6,c7⟩,f0,f1,f2,f3,f4,f5,f6,f7,B1⟩:=R3;go_wp2;refine bodyPost_ret (v:=.tuple #[.agg qZa,.bool false]) yi rfl ⟨by rw [HE.o];rfl,?_⟩;exact kb4
      | some v=>
       have HE:Hid (R=some (c,n1,n2,n3,n4,n5,p6.data.toList,v)):=Lib.hid vg;refine (Vq p7 v _ hl7 hX).mono ?_;rintro e w3 ⟨rfl,hb⟩;have R3:=R2.later hb;have g0:=lT hb m0;have g1:=lT hb m1;have g2:=lT hb m2;have g3:=lT hb m3;have g4:=lT hb m4;have i0:=lT hb j0;have i6:=lT hb j6;obtain ⟨⟨c0,c1,c2,c3,c4,c5,c6,c7⟩,f0,f1,f2,f3,f4,f5,f6,f7,B1⟩:=R3
       generalize w1.heap.size=kn at ne1 ne2 g0 g1 g2 g3 g4 |-
       have h0:Y1 kn g n1 n2 n3 n4 n5 c p6 w3:=⟨g0,g1,g2,g3,g4,i0,i6⟩
       have aT:∀w,(Instr.index 9 (.string ⟨#[c]⟩) (qI 0)).run prog w= .ok (.int .u8 (c.toNat:Int)) w:=fun _=>zk
       go_wp2_with fail
       go_region_held3 (fun w'=>w'.cell? (qB kn)=some (qN n1)/\w'.cell? (qA kn 1)=some (qN n2)/\w'.cell? (qA kn 2)=some (qN n3)/\w'.cell? (qA kn 3)=some (qN n4)/\w'.cell? (qA kn 4)=some (qN n5)/\w'.cell? (qB g)=some (.string ⟨#[c]⟩)/\w'.cell? (qA g 6)=some (.string p6))
        (first
         | with_reducible assumption
         | with_reducible exact Y1.drew h0
         | with_reducible exact Y1.drew (Y1.abU ne2 ne3 h0)
         | with_reducible exact Y1.abU ne2 ne3 (Y1.drew h0))
        (fail)
       all_goals go_wp2
       all_goals
        refine bodyPost_ret (v:=.tuple #[.agg #[qN n1,qN n2,qN n3,.int .u8 (c.toNat:Int),qN n4,qN n5,.string p6,.string ⟨v.toArray⟩],.bool true]) yi rfl ⟨by rw [HE.o];rfl,?_⟩;exact kh2
theorem DQ(s)(w)(hs:s.size<=1000000)(m)(hm:w.cell? (qB 14)=some (qI m)):
  qC 344 #[.string s] w (qR (.tuple #[tZ (nQ s.data.toList),.bool (nQ s.data.toList).isSome]) w):=by
 by_cases h8:(nk 124 s.data.toList).length=8
 ·obtain ⟨l0,l1,l2,l3,l4,l5,l6,l7,hl⟩:∃l0 l1 l2 l3 l4 l5 l6 l7,nk 124 s.data.toList= [l0,l1,l2,l3,l4,l5,l6,l7]:=by
   match nk 124 s.data.toList,h8 with
   | [a0,a1,a2,a3,a4,a5,a6,a7],_=>exact ⟨a0,a1,a2,a3,a4,a5,a6,a7,rfl⟩
  by_cases h0:l0.length=1
  ·match l0,h0 with
   | [c],_=>exact Ic s w hs m hm c l1 l2 l3 l4 l5 l6 l7 hl
  exact Nz s w hs m hm l0 l1 l2 l3 l4 l5 l6 l7 hl h0
 exact OP s w hs m hm h8
theorem RD{ad:qF}(s)(w)(hs:s.size<=1000000)(m)(hm:w.cell? (qB 14)=some (qI m))(ht:w.cell? (qB 1)=some (.iface 437 (.pointer (some (ad 0)))))(h:nQ s.data.toList=none):
  qC 288 #[.string s] w (qR (.tuple #[tZ none,.iface 437 (.pointer (some (ad 0)))]) w):=by
 have R0:=aac.GA w 88;have hb0:qL w (w.alloc qZc):=(uO w.heap.size w).alloc zg _;have HM:=Lib.hid (DQ s _ hs m (lT hb0 hm));rw [h] at HM;have T0:=lT hb0 ht;have neT0:1<w.heap.size:=uP w (qB 1) ht;go_enter func288,ntmps288;go_wp2_with fail
 generalize w.alloc qZc=u at R0 HM T0 |-
 refine HM.o.mono ?_;rintro e w1 ⟨rfl,hb⟩;have R1:=R0.later hb;have T1:=lT hb T0;unfold tZ;go_wp2_with fail;have hb2:qL w1 (w1.alloc qZc):=zh _ _;have R2:=R1.later hb2;have T2:=lT hb2 T1
 generalize w1.alloc qZc=w2 at R2 T2 |-
 obtain ⟨⟨c0,c1,c2,c3,c4,c5,c6,c7⟩,f0,f1,f2,f3,f4,f5,f6,f7,B1⟩:=R2;go_region
 all_goals go_wp2
 all_goals
  refine bodyPost_ret (v:=.tuple #[.agg qZa,.iface 437 (.pointer (some (ad 0)))]) yH rfl ⟨rfl,?_⟩;exact kh2
theorem RB{ad}(s)(w)(hs:s.size<=1000000)(m)(hm:w.cell? (qB 14)=some (qI m))(hE:U9 ad w)(c)(n1 n2 n3 n4 n5)(nm v)(h:nQ s.data.toList=some (c,n1,n2,n3,n4,n5,nm,v))(hn:nm.length<=1000000)(hv:v.length<=1000000)(hc:opE n1 n2 n3 c.toNat n4 n5 nm v≠0):
  qC 288 #[.string s] w (qR (.tuple #[tZ none,.iface 437 (.pointer (some (ad (opE n1 n2 n3 c.toNat n4 n5 nm v - 1))))]) w):=by
 have R0:=aac.GA w 88;have hb0:qL w (w.alloc qZc):=(uO w.heap.size w).alloc zg _;have HM:=Lib.hid (DQ s _ hs m (lT hb0 hm));rw [h] at HM;have E0:=hE.later hb0
 have hk:=fun u hu=>mn (ad:=ad) n1 n2 n3 c.toNat n4 n5 ⟨nm.toArray⟩ ⟨v.toArray⟩ u hu (by simpa [ByteArray.size] using hn) (by simpa [ByteArray.size] using hv)
 have cZ:(⟨nm.toArray⟩:qY).data.toList=nm:=rfl;have kF:(⟨v.toArray⟩:qY).data.toList=v:=rfl;rw [cZ,kF] at hk
 generalize opE n1 n2 n3 c.toNat n4 n5 nm v=code at hc hk |-
 have HC:=Lib.hid hk
 have he:eV ad code= .iface 437 (.pointer (some (ad (code - 1)))):=by unfold eV;rw [if_neg hc]
 have HV:=Lib.hid he;go_enter func288,ntmps288;go_wp2_with fail
 generalize w.alloc qZc=u at R0 HM E0 |-
 refine HM.o.mono ?_;rintro e w1 ⟨rfl,hb⟩;have R1:=R0.later hb;have E1:=E0.later hb;unfold tZ;go_wp2_with fail;have hb2:qL w1 (w1.alloc (.cells #[qN n1,qN n2,qN n3,.int .u8 (c.toNat:Int),qN n4,qN n5,.string ⟨nm.toArray⟩,.string ⟨v.toArray⟩] 88)):=zh _ _;have R2:=R1.later hb2;have E2:=E1.later hb2;refine (HC.o _ E2).mono ?_;rintro e w3 ⟨rfl,hb⟩;rw [HV.o];have R3:=R2.later hb;obtain ⟨⟨c0,c1,c2,c3,c4,c5,c6,c7⟩,f0,f1,f2,f3,f4,f5,f6,f7,B1⟩:=R3;go_wp2;refine bodyPost_ret (v:=.tuple #[.agg qZa,.iface 437 (.pointer (some (ad (code - 1))))]) yH rfl ⟨rfl,?_⟩;exact kb4
theorem zaJ{ad}(s)(w)(hs:s.size<=1000000)(m)(hm:w.cell? (qB 14)=some (qI m))(hE:U9 ad w)(c)(n1 n2 n3 n4 n5)(nm v)(h:nQ s.data.toList=some (c,n1,n2,n3,n4,n5,nm,v))(hn:nm.length<=1000000)(hv:v.length<=1000000)(hc:opE n1 n2 n3 c.toNat n4 n5 nm v=0):
  qC 288 #[.string s] w (qR (.tuple #[tZ (some (c,n1,n2,n3,n4,n5,nm,v)),.nilIface]) w):=by
 have R0:=aac.GA w 88;have hb0:qL w (w.alloc qZc):=(uO w.heap.size w).alloc zg _;have HM:=Lib.hid (DQ s _ hs m (lT hb0 hm));rw [h] at HM;have E0:=hE.later hb0
 have hk:=fun u hu=>mn (ad:=ad) n1 n2 n3 c.toNat n4 n5 ⟨nm.toArray⟩ ⟨v.toArray⟩ u hu (by simpa [ByteArray.size] using hn) (by simpa [ByteArray.size] using hv)
 have cZ:(⟨nm.toArray⟩:qY).data.toList=nm:=rfl;have kF:(⟨v.toArray⟩:qY).data.toList=v:=rfl;rw [cZ,kF,hc] at hk;have HC:=Lib.hid hk;go_enter func288,ntmps288;go_wp2_with fail
 generalize w.alloc qZc=u at R0 HM E0 |-
 refine HM.o.mono ?_;rintro e w1 ⟨rfl,hb⟩;have R1:=R0.later hb;have E1:=E0.later hb;unfold tZ;go_wp2_with fail;have hb2:qL w1 (w1.alloc (.cells #[qN n1,qN n2,qN n3,.int .u8 (c.toNat:Int),qN n4,qN n5,.string ⟨nm.toArray⟩,.string ⟨v.toArray⟩] 88)):=zh _ _;have R2:=R1.later hb2;have E2:=E1.later hb2;have O2:=Q5.GA w1 n1 n2 n3 c.toNat n4 n5 ⟨nm.toArray⟩ ⟨v.toArray⟩ 88
 have ne1:¬w1.heap.size=w.heap.size:=by have:=R1.lt;omega
 refine (HC.o _ E2).mono ?_;rintro e w3 ⟨rfl,hb⟩;have R3:=R2.later hb;have O3:=O2.later hb;have he:eV ad 0= .nilIface:=rfl;rw [he];obtain ⟨⟨c0,c1,c2,c3,c4,c5,c6,c7⟩,f0,f1,f2,f3,f4,f5,f6,f7,B1⟩:=R3;obtain ⟨x0,x1,x2,x3,x4,x5,x6,x7⟩:=O3;go_wp2;refine bodyPost_ret (v:=.tuple #[.agg #[qN n1,qN n2,qN n3,.int .u8 (c.toNat:Int),qN n4,qN n5,.string ⟨nm.toArray⟩,.string ⟨v.toArray⟩],.nilIface]) yH rfl ⟨rfl,?_⟩;exact kb4
def pL(k:Nat)(l:qU):Bool:=if k=87 then mr l else if k=76 then mr l &&decide (l.length=1) else if k=80 then decide (l≠ []) else false
theorem Ue(s)(b)(w)(hs:s.size<=1000000)(h:mr s.data.toList=b):
  qC 206 #[.string s] w fun e w'=>e= .returned (.bool b)/\w'=w:=by rw [<-h];exact Ke s w hs
theorem MU(w)(k:Nat)(F8)(hk:k<256)(hs:F8.size<=1000000):
  qC 151 #[.int .u8 (k:Int),.string F8] w fun e w'=>e= .returned (.bool (pL k F8.data.toList))/\w'=w:=by
 obtain ⟨b,hb⟩:∃b,Aside (mr F8.data.toList=b):=⟨_,rfl⟩
 have hN:=Ue F8 b w hs hb.o;have hl:F8.data.toList.length=F8.size:=zq;by_cases k1:k=87
 ·subst k1;have e:Aside (pL 87 F8.data.toList=b):=hb.o;exact ke1
 by_cases k2:k=76
 ·subst k2
  cases b with
  | false=>
   have e:Aside (pL 76 F8.data.toList=false):=by unfold pL;rw [if_neg zj,if_pos rfl,hb.o];rfl
   exact ke1
  | true=>
   obtain ⟨c,hc⟩:∃c,((F8.size:Int)==1)=c:=⟨_,rfl⟩
   have e:Aside (pL 76 F8.data.toList=c):=by
    unfold pL;rw [if_neg zj,if_pos rfl,hb.o,hl,<-hc];rw [Bool.true_and,YX,decide_eq_true_iff,beq_iff_eq];exact Int.ofNat_inj.symm
   exact ke1
 have d1:((k:Int)==87)=false:=zl;have d2:((k:Int)==76)=false:=zl;by_cases k3:k=80
 ·subst k3
  obtain ⟨c,hc⟩:∃c,pL 80 F8.data.toList=c:=⟨_,rfl⟩
  have fC:Aside (pL 80 F8.data.toList=c):=hc
  have e1:Aside ((!F8.toList.isEmpty)=c):=by
   rw [<-hc];unfold pL;rw [if_neg zj,if_neg zj,if_pos rfl,ZB]
   cases F8.data.toList<;>rfl
  rw [fC.o];go_enter func151,ntmps151;go_wp2;go_ret;exact ⟨congrArg (fun b=>Ending.returned (.bool b)) e1.o,rfl⟩
 have d3:((k:Int)==80)=false:=zl
 have e:Aside (pL k F8.data.toList=false):=by unfold pL;rw [if_neg k1,if_neg k2,if_neg k3];rfl
 rw [e.o];go_enter func151,ntmps151;exact ka7
def nw(k:Nat)(F8:qY)(s:IL):IL×Bool:=
 if k=68 then ((s.1++ [(((pq 7 F8.data.toList).getD 0:Nat):Int)],s.2.1,s.2.2),(pq 7 F8.data.toList).isSome &&decide ((pq 7 F8.data.toList).getD 0<3))
 else if k=78 then ((s.1,s.2.1++ [(((pq 7 F8.data.toList).getD 0:Nat):Int)],s.2.2),(pq 7 F8.data.toList).isSome)
 else ((s.1,s.2.1,s.2.2++ [F8]),pL k F8.data.toList)
def Xn(B b:Nat)(s:IL)(z:Bool)(w:qW)(e:Ending)(w':qW):Prop:=e= .returned (.bool z)/\Aside (∃v0 v1 v2,J9 w' B b v0 v1 v2 s/\Below B w w')
theorem RI(w)(B b)(v0 v1 v2)(s)(k:Nat)(F8)(h:J9 w B b v0 v1 v2 s)(hB:B<=b)(hk:k<256)(hs:F8.size<=1000000)(hl:s.1.length+s.2.1.length+s.2.2.length<=100):
  qC 109 #[ptB b,.int .u8 (k:Int),.string F8] w (Xn B b (nw k F8 s).1 (nw k F8 s).2 w):=by
 have hN:=Ce 7 zj F8 w
 have hw:B<=w.heap.size:=by have:=h.F9.lt;omega
 have c0:=h.F9.cell 0;have c1:=h.F9.cell 1;have c2:=h.F9.cell 2;simp only [Zb,Zf] at c0 c1 c2;unfold ptB;by_cases k1:k=68
 ·subst k1;have e:Aside (nw 68 F8 s=((s.1++ [(((pq 7 F8.data.toList).getD 0:Nat):Int)],s.2.1,s.2.2),(pq 7 F8.data.toList).isSome &&decide ((pq 7 F8.data.toList).getD 0<3))):=if_pos rfl;rw [e.o]
  generalize (pq 7 F8.data.toList).isSome=z at hN |-
  generalize (pq 7 F8.data.toList).getD 0=n at hN |-
  obtain ⟨v',w3,ae,ho,hg,hv⟩:=AR (S:=35) underlying35 WC zj rfl h.r0 hw zj (Nu (n:Int)) rfl 35;have H:=h.adc (n:Int) ho hg hv hB
  have HF:Aside (J9 (w3.setCell (qB b) v') B b v' v1 v2 (s.1++ [(n:Int)],s.2.1,s.2.2)/\Below B w (w3.setCell (qB b) v')):=⟨H.1,H.2 hw⟩
  have hb3:o9 w3 b 84 [v0,v1,v2]:=(hg.block b h.F9.lt (fun e=>nI h.r0 h.F9 tyI e.symm)).trans h.F9
  have f0:w3.cell? (qB b)=some v0:=by simpa using hb3.cell 0
  have z0:w3.frozen? (qB b)=false:=vr;obtain ⟨ao,cap,rfl⟩:=mC h.r0;obtain ⟨ao',cap',rfl⟩:=mC ho;unfold Nu at ae
  have hd:decide ((n:Int)<3)=decide (n<3):=by rw [YX];simp;omega
  have HD:Aside (decide ((n:Int)<3)=decide (n<3)):=hd
  cases z
  ·exact kf6
  go_enter func109,ntmps109;go_wp2_with (first | (go_at_call 150;refine hN.mono ?_;rintro e w' ⟨rfl,rfl⟩) | (at_builtin;refine Lib.wpList_append_run _ rfl _ _ _ _ rfl _ _ rfl rfl _ _ ae ?_));go_ret;exact ⟨by rw [Bool.true_and,<-HD.o];rfl,_,_,_,HF.o⟩
 by_cases k2:k=78
 ·subst k2;have e:Aside (nw 78 F8 s=((s.1,s.2.1++ [(((pq 7 F8.data.toList).getD 0:Nat):Int)],s.2.2),(pq 7 F8.data.toList).isSome)):=rfl;rw [e.o]
  generalize (pq 7 F8.data.toList).isSome=z at hN |-
  generalize (pq 7 F8.data.toList).getD 0=n at hN |-
  obtain ⟨v',w3,ae,ho,hg,hv⟩:=AR (S:=35) underlying35 WC zj rfl h.r1 hw zj (Nu (n:Int)) rfl 35;have H:=h.adm (n:Int) ho hg hv hB
  have HF:Aside (J9 (w3.setCell (qA b 1) v') B b v0 v' v2 (s.1,s.2.1++ [(n:Int)],s.2.2)/\Below B w (w3.setCell (qA b 1) v')):=⟨H.1,H.2 hw⟩
  have hb3:o9 w3 b 84 [v0,v1,v2]:=(hg.block b h.F9.lt (fun e=>nI h.r1 h.F9 tyI e.symm)).trans h.F9
  have f0:w3.cell? (qA b 1)=some v1:=by simpa using hb3.cell 1
  have z0:w3.frozen? (qA b 1)=false:=vr;obtain ⟨ao,cap,rfl⟩:=mC h.r1;obtain ⟨ao',cap',rfl⟩:=mC ho;unfold Nu at ae;exact kf6
 have d1:((k:Int)==68)=false:=zl;have d2:((k:Int)==78)=false:=zl
 have e:Aside (nw k F8 s=((s.1,s.2.1,s.2.2++ [F8]),pL k F8.data.toList)):=by unfold nw;rw [if_neg k1,if_neg k2];rfl
 rw [e.o];obtain ⟨v',w3,ae,ho,hg,-⟩:=AR (S:=22) underlying22 Gd zj rfl h.r2 hw zj (rz F8) rfl 22;have H:=h.adl F8 ho hg hB
 have HF:Aside (J9 (w3.setCell (qA b 2) v') B b v0 v1 v' (s.1,s.2.1,s.2.2++ [F8])/\Below B w (w3.setCell (qA b 2) v')):=⟨H.1,H.2 hw⟩
 have hb3:o9 w3 b 84 [v0,v1,v2]:=(hg.block b h.F9.lt (fun e=>nI h.r2 h.F9 tyS e.symm)).trans h.F9
 have f0:w3.cell? (qA b 2)=some v2:=by simpa using hb3.cell 2
 have z0:w3.frozen? (qA b 2)=false:=vr;have hT:=MU (w3.setCell (qA b 2) v') k F8 hk hs;obtain ⟨ao,cap,rfl⟩:=mC h.r2;obtain ⟨ao',cap',rfl⟩:=mC ho;unfold rz at ae;go_enter func109,ntmps109;go_wp2_with (first | (go_at_call 151;refine hT.mono ?_;rintro e w' ⟨rfl,rfl⟩) | (at_builtin;refine Lib.wpList_append_run _ rfl _ _ _ _ rfl _ _ rfl rfl _ _ ae ?_));go_ret;exact ⟨rfl,_,_,_,HF.o⟩
def og:List UInt8->List ByteArray->IL->Option IL
 | k::ks,x::xs,s=>if (nw k.toNat x s).2 then og ks xs (nw k.toNat x s).1 else none
 | _,_,s=>some s
def nj(form:List UInt8)(aaf:List ByteArray):Option IL:=if aaf.length=form.length then og form aaf ([],[],[]) else none
structure C3 (w:qW) (v0 v1 v2:Value) (s:IL):Prop where
 r0:∃B,w.ownsRow B 3 1 v0 s.1.length (s.1.map Nu)
 r1:∃B,w.ownsRow B 3 1 v1 s.2.1.length (s.2.1.map Nu)
 r2:∃B,w.ownsRow B 9 1 v2 s.2.2.length (s.2.2.map rz)
theorem Hq(w):C3 w (.slice none 0 0) (.slice none 0 0) (.slice none 0 0) ([],[],[]):=⟨⟨0,Zk _ _ _ _⟩,⟨0,Zk _ _ _ _⟩,⟨0,Zk _ _ _ _⟩⟩
def Wz(n:Nat)(v0 v1:Value):Prop:=∀k,v0.ownBlock=some k\/v1.ownBlock=some k->n<=k
theorem Kq(n):Wz n (.slice none 0 0) (.slice none 0 0):=fun k q=>by rcases q with q | q<;>cases q
def Ul(o:Option IL)(w:World)(e:Ending)(w':World):Prop:=∃v0 v1 v2,e= .returned (.tuple #[.agg #[v0,v1,v2],.bool o.isSome])/\Aside (Below w.heap.size w w'/\C3 w' v0 v1 v2 (o.getD ([],[],[]))/\Wz w.heap.size v0 v1)
def Ee(w:World)(ao:Option Addr)(L:List ByteArray):Prop:=∀i x,L[i]? =some x->∃blk off,ao=some ⟨blk,off,none⟩/\w.cell? ⟨blk,off+i,none⟩=some (.string x)
theorem VM{k}{x}{s} :(nw k x s).1.1.length+(nw k x s).1.2.1.length+(nw k x s).1.2.2.length=s.1.length+s.2.1.length+s.2.2.length+1:=by
 grind [nw]
theorem SA{w}{S b}{v0 v1 v2}{s}(h:J9 w (S+1) b v0 v1 v2 s)(x y z):C3 (((w.setCell ⟨S,0,none⟩ x).setCell ⟨S,1,none⟩ y).setCell ⟨S,2,none⟩ z) v0 v1 v2 s:=
 have k0:v0.ownBlock≠some S:=fun e=>by have:=(h.r0.lt S e).1;omega
 have k1:v1.ownBlock≠some S:=fun e=>by have:=(h.r1.lt S e).1;omega
 have k2:v2.ownBlock≠some S:=fun e=>by have:=(h.r2.lt S e).1;omega
 ⟨⟨_,mA (mA (mA h.r0 k0) k0) k0⟩,⟨_,mA (mA (mA h.r1 k1) k1) k1⟩,⟨_,mA (mA (mA h.r2 k2) k2) k2⟩⟩
theorem PW(w W w1)(S)(h0:W.heap[S]? =some (.cells #[.slice none 0 0,.slice none 0 0,.slice none 0 0] 84 (0,0)))(hb:Below S w W)(h1:Below (S+1) W w1):
  w1.cell? ⟨S,0,none⟩=some (.slice none 0 0)/\w1.cell? ⟨S,1,none⟩=some (.slice none 0 0)/\w1.cell? ⟨S,2,none⟩=some (.slice none 0 0)/\w1.frozen? ⟨S,0,none⟩=false/\w1.frozen? ⟨S,1,none⟩=false/\w1.frozen? ⟨S,2,none⟩=false/\
   ∀a b c:Value,Below S w (((w1.setCell ⟨S,0,none⟩ a).setCell ⟨S,1,none⟩ b).setCell ⟨S,2,none⟩ c)/\o9 (((w1.setCell ⟨S,0,none⟩ a).setCell ⟨S,1,none⟩ b).setCell ⟨S,2,none⟩ c) S 84 [a,b,c]:=by
 have hB:o9 w1 S 84 [.slice none 0 0,.slice none 0 0,.slice none 0 0]:=(h1.block S zj).trans h0;have hw:=hb.trans (h1.mono zj);refine ⟨hB.cell 0,hB.cell 1,hB.cell 2,?_,?_,?_,fun a b c=>⟨((hw.setCell zg _).setCell zg _).setCell zg _,((hB.set 0 a).set 1 b).set 2 c⟩⟩<;>simp [World.frozen?,hB]
theorem UH(w:World)(form:ByteArray)(ao:Option Addr)(cap:Nat)(L:List ByteArray)(hL:Ee w ao L)(hf:form.size<=50)(hn:L.length<=50)(hs:∀x∈L,x.size<=1000000):
  Calls prog 69 #[.string form,.slice ao L.length cap] w (Ul (nj form.data.toList L) w):=by
 by_cases hl:L.length=form.size
 ·have e:Aside (nj form.data.toList L=og form.data.toList L ([],[],[])):=if_pos qx;rw [e.o]
  obtain ⟨R,hR⟩:∃R,Aside (og form.data.toList L ([],[],[])=R):=⟨_,rfl⟩
  rw [hR.o]
  obtain ⟨n,hn'⟩:∃n,L.length=n:=⟨_,rfl⟩
  have d0:((n:Int) !=(n:Int))=false:=zq
  have HL:Aside (Ee w ao L/\∀x∈L,x.size<=1000000):=⟨hL,hs⟩
  rw [hn'] at hn hl |-
  have hfs:=hl.symm;clear e hL hs hl
  have hA:Aside (∀W,W=(w.alloc (.cells #[.slice none 0 0,.slice none 0 0,.slice none 0 0] 84)).alloc (.cells #[.slice none 0 0,.slice none 0 0,.slice none 0 0] 84)->W.heap[w.heap.size]? =some (.cells #[.slice none 0 0,.slice none 0 0,.slice none 0 0] 84 (0,0))/\Below (w.heap.size+1) (w.alloc (.cells #[.slice none 0 0,.slice none 0 0,.slice none 0 0] 84)) W/\Below w.heap.size w W/\J9 W (w.heap.size+1) (w.heap.size+1) (.slice none 0 0) (.slice none 0 0) (.slice none 0 0) ([],[],[])):=by
   rintro W rfl;refine ⟨?_,(uO _ _).alloc zq _,(zh w _).alloc zq _,⟨?_,Zk _ _ _ _,Zk _ _ _ _,Zk _ _ _ _,.inl rfl⟩⟩
   ·rw [uT _ _ _ zq];exact heap_alloc_new w _
   have:=heap_alloc_new (w.alloc (.cells #[.slice none 0 0,.slice none 0 0,.slice none 0 0] 84)) (.cells #[.slice none 0 0,.slice none 0 0,.slice none 0 0] 84);exact kc7
  go_enter func69,ntmps69;go_wp2_with fail;obtain ⟨W,hW⟩:=za ((w.alloc (.cells #[.slice none 0 0,.slice none 0 0,.slice none 0 0] 84)).alloc (.cells #[.slice none 0 0,.slice none 0 0,.slice none 0 0] 84));have A0:Aside _:=hA.o W hW;rw [<-hW]
  obtain ⟨S,hS⟩:∃S,Aside (w.heap.size=S):=⟨_,rfl⟩
  rw [hS.o] at A0 |-
  go_loopg [17] n (fun kx ji wr=>∃i:Nat,ji= .int .i64 (i:Int)/\i<=n/\n - i<=kx/\Aside (∃v0 v1 v2 s,J9 wr (S+1) (S+1) v0 v1 v2 s/\og (form.data.toList.drop i) (L.drop i) s=R/\s.1.length+s.2.1.length+s.2.2.length=i/\Below (S+1) W wr))
  case atStart=>exact ⟨0,rfl,zj,uM _,_,_,_,_,A0.o.2.2.2,hR.o,rfl,uO _ _⟩
  case round=>
   obtain ⟨i,rfl,hi,aY,A⟩:=hrel;obtain ⟨v0,v1,v2,s,A1⟩:∃v0 v1 v2 s,Aside (J9 wr (S+1) (S+1) v0 v1 v2 s/\og (form.data.toList.drop i) (L.drop i) s=R/\s.1.length+s.2.1.length+s.2.2.length=i/\Below (S+1) W wr):=A.o;by_cases hlt:i<n
   ·have aq:decide ((i:Int)<(n:Int))=true:=by simp;omega
    have ei:((i:Int)).toNat=i:=zj;have pi:(0:Int)<=(i:Int):=zj;have bi:(i:Int)<(n:Int):=zj;have bf:i<form.size:=zj
    obtain ⟨x,hx⟩:∃x,Aside (L[i]? =some x):=⟨L[i]'zj,uL zj⟩
    obtain ⟨blk,off,aH,hc⟩:=HL.o.1 i x hx.o;subst aH
    have bI:Below S w wr:=by exact A0.o.2.2.1.trans (A1.o.2.2.2.mono zj)
    have cx:wr.cell? ⟨blk,off+i,none⟩=some (.string x):=(bI.cell (p:=⟨blk,off+i,none⟩) (by have:=uP w ⟨blk,off+i,none⟩ hc;rw [hS.o] at this;exact this)).trans hc;have hT:=RI wr (S+1) (S+1) v0 v1 v2 s (form[i]'bf).toNat x A1.o.1 zg (UInt8.toNat_lt _) (HL.o.2 x (uR hx.o)) (by have:=A1.o.2.2.1;omega)
    have hRn:Aside (R=if (nw (form[i]'bf).toNat x s).2 then og (form.data.toList.drop (i+1)) (L.drop (i+1)) (nw (form[i]'bf).toNat x s).1 else none):=by
     have h:=A1.o.2.1
     rw [rk form i bf,show L.drop i=x::L.drop (i+1) by
      have hl:i<L.length:=zj
      rw [Yg hl]
      have e:=hx.o
      rw [uL hl] at e
      rw [Option.some.inj e]] at h
     exact h.symm
    have hLn:= @VM (form[i]'bf).toNat x s;go_wp2_with fail;refine hT.mono ?_;rintro e w1 ⟨rfl,v0',v1',v2',hT1,hT2⟩
    have A2:Aside (J9 w1 (S+1) (S+1) v0' v1' v2' (nw (form[i]'bf).toNat x s).1/\Below (S+1) W w1/\(nw (form[i]'bf).toNat x s).1.1.length+(nw (form[i]'bf).toNat x s).1.2.1.length+(nw (form[i]'bf).toNat x s).1.2.2.length=i+1):=⟨hT1,A1.o.2.2.2.trans hT2,by rw [hLn,A1.o.2.2.1]⟩
    generalize (nw (form[i]'bf).toNat x s).1=s' at A2 hRn |-
    generalize (nw (form[i]'bf).toNat x s).2=z at hRn |-
    cases z
    ·have hk:=PW w W w1 S A0.o.1 A0.o.2.2.1 A2.o.2.1
     have e:Aside (R=none):=by rw [hRn.o];rfl
     obtain ⟨k0,k1,k2,z0,z1,z2,kE⟩:=hk;have KE:Aside _:=kE;go_wp2;exact bodyPost_ret (v:=.tuple #[.agg #[.slice none 0 0,.slice none 0 0,.slice none 0 0],.bool false]) vw rfl ⟨_,_,_,by rw [e.o];rfl,by rw [hS.o];exact (KE.o _ _ _).1,by rw [e.o];exact Hq _,Kq _⟩
    have e:Aside (R=og (form.data.toList.drop (i+1)) (L.drop (i+1)) s'):=by rw [hRn.o];rfl
    go_wp2;go_roundg (n - (i+1))
    case measure=>omega
    case rel=>exact ⟨i+1,zJ,zj,uM _,_,_,_,_,A2.o.1,e.o.symm,A2.o.2.2,A2.o.2.1⟩
   have aq:decide ((i:Int)<(n:Int))=false:=zl;obtain rfl:i=n:=zj
   have e:Aside (R=some s):=by
    have h:=A1.o.2.1;rw [<-hn',List.drop_length] at h
    cases hd:form.data.toList.drop L.length with
    | nil=>rw [hd] at h;exact h.symm
    | cons a b=>rw [hd] at h;exact h.symm
   obtain ⟨k0,k1,k2,z0,z1,z2,kE⟩:=PW w W wr S A0.o.1 A0.o.2.2.1 A1.o.2.2.2;have KE:Aside _:=kE;have c0:=A1.o.1.F9.cell 0;have c1:=A1.o.1.F9.cell 1;have c2:=A1.o.1.F9.cell 2;simp only [Zb,Zf] at c0 c1 c2;obtain ⟨a0,q0,rfl⟩:=mC A1.o.1.r0;obtain ⟨a1,q1,rfl⟩:=mC A1.o.1.r1;obtain ⟨a2,q2,rfl⟩:=mC A1.o.1.r2;go_wp2;exact bodyPost_ret (v:=.tuple #[.agg #[.slice a0 s.1.length q0,.slice a1 s.2.1.length q1,.slice a2 s.2.2.length q2],.bool true]) vw rfl ⟨_,_,_,by rw [e.o];rfl,by rw [hS.o];exact (KE.o _ _ _).1,by rw [e.o];exact SA A1.o.1 _ _ _,fun k q=>by rw [hS.o];exact q.elim (fun q=>Nat.le_of_succ_le (A1.o.1.r0.lt k q).1) (fun q=>Nat.le_of_succ_le (A1.o.1.r1.lt k q).1)⟩
 have e:Aside (nj form.data.toList L=none):=if_neg qx;rw [e.o];have d0:((L.length:Int) !=(form.size:Int))=true:=zl;go_enter func69,ntmps69;go_wp2;exact bodyPost_ret (v:=.tuple #[.agg #[.slice none 0 0,.slice none 0 0,.slice none 0 0],.bool false]) (by simp [results,results69,go_sem]) rfl ⟨_,_,_,rfl,zh w _,Hq _,Kq _⟩
theorem Po{w:qW}{B}{T}{v}{xs}{n}(h:w.ownsRow B T 1 v n xs)(hn:0<n):∃g cap,v=qG g n cap/\g<w.heap.size/\∀i,i<n->w.cell? (qA g i)=xs[i]? :=by
 rcases h.2 with ⟨rfl,h0⟩ | ⟨g,cap,cur,rfl,_⟩
 ·omega
 exact ⟨g,cap,rfl,(h.lt g rfl).2,fun i hi=>h.cellAt i zj⟩
theorem C3.aab{w}{v0 v1 v2}{s}(h:C3 w v0 v1 v2 s)(hn:0<s.2.1.length):∃g cap,v1=qG g s.2.1.length cap/\g<w.heap.size/\∀i x,s.2.1[i]? =some x->w.cell? (qA g i)=some (qI x):=by
 obtain ⟨B,h1⟩:=h.r1;exact ke5
theorem C3.abH{w}{v0 v1 v2}{s}(h:C3 w v0 v1 v2 s)(hn:0<s.1.length):∃g cap,v0=qG g s.1.length cap/\g<w.heap.size/\∀i x,s.1[i]? =some x->w.cell? (qA g i)=some (qI x):=by
 obtain ⟨B,h1⟩:=h.r0;exact ke5
theorem C3.aaf{w}{v0 v1 v2}{s}(h:C3 w v0 v1 v2 s)(hn:0<s.2.2.length):∃g cap,v2=qG g s.2.2.length cap/\g<w.heap.size/\∀i x,s.2.2[i]? =some x->w.cell? (qA g i)=some (.string x):=by
 obtain ⟨B,h1⟩:=h.r2;exact ke5
def sP(y:Int×Int×Int×Nat×Int×Int×ByteArray×ByteArray)(w:World)(e:Ending)(w':World):Prop:=e= .returned (.agg #[.int .i64 y.1,.int .i64 y.2.1,.int .i64 y.2.2.1,.int .u8 (y.2.2.2.1:Int),.int .i64 y.2.2.2.2.1,.int .i64 y.2.2.2.2.2.1,.string y.2.2.2.2.2.2.1,.string y.2.2.2.2.2.2.2])/\Aside (Below w.heap.size w w')
def Ch(S:Nat)(V W:World):Prop:=∀(p:Addr) v,p.block<S+1->V.cell? p=some v->W.cell? p=some v
theorem Nm(w)(cs)(V)(hV:V=(w.alloc (.cells cs.toArray 84)).alloc (.cells #[.int .i64 0,.int .i64 0,.int .i64 0,.int .u8 0,.int .i64 0,.int .i64 0,.string ⟨#[]⟩,.string ⟨#[]⟩] 88)):
  (∀(p:Addr) v,w.cell? p=some v->V.cell? p=some v)/\o9 V w.heap.size 84 cs/\(V.cell? ⟨w.heap.size+1,0,none⟩=some (.int .i64 0)/\V.cell? ⟨w.heap.size+1,1,none⟩=some (.int .i64 0)/\V.cell? ⟨w.heap.size+1,2,none⟩=some (.int .i64 0)/\V.cell? ⟨w.heap.size+1,3,none⟩=some (.int .u8 0)/\V.cell? ⟨w.heap.size+1,4,none⟩=some (.int .i64 0)/\V.cell? ⟨w.heap.size+1,5,none⟩=some (.int .i64 0)/\V.cell? ⟨w.heap.size+1,6,none⟩=some (.string ⟨#[]⟩)/\V.cell? ⟨w.heap.size+1,7,none⟩=some (.string ⟨#[]⟩)/\∀o,V.frozen? ⟨w.heap.size+1,o,none⟩=false)/\
   (∀a0 a1 a2 a3 a4 a5 a6 a7:Value,Below w.heap.size w (((((((((V.setCell ⟨w.heap.size+1,0,none⟩ a0).setCell ⟨w.heap.size+1,1,none⟩ a1).setCell ⟨w.heap.size+1,2,none⟩ a2).setCell ⟨w.heap.size+1,3,none⟩ a3).setCell ⟨w.heap.size+1,4,none⟩ a4).setCell ⟨w.heap.size+1,5,none⟩ a5).setCell ⟨w.heap.size+1,6,none⟩ a6).setCell ⟨w.heap.size+1,7,none⟩ a7).drew))/\
   ∀a0 a1 a2 a3 a4 a5 a6 a7:Value,Ch w.heap.size V (((((((((V.setCell ⟨w.heap.size+1,0,none⟩ a0).setCell ⟨w.heap.size+1,1,none⟩ a1).setCell ⟨w.heap.size+1,2,none⟩ a2).setCell ⟨w.heap.size+1,3,none⟩ a3).setCell ⟨w.heap.size+1,4,none⟩ a4).setCell ⟨w.heap.size+1,5,none⟩ a5).setCell ⟨w.heap.size+1,6,none⟩ a6).setCell ⟨w.heap.size+1,7,none⟩ a7).drew):=by
 have hb:Below w.heap.size w V:=uy
 have hz:o9 V (w.heap.size+1) 88 [.int .i64 0,.int .i64 0,.int .i64 0,.int .u8 0,.int .i64 0,.int .i64 0,.string ⟨#[]⟩,.string ⟨#[]⟩]:=by
  have:=heap_alloc_new (w.alloc (.cells cs.toArray 84)) (.cells #[.int .i64 0,.int .i64 0,.int .i64 0,.int .u8 0,.int .i64 0,.int .i64 0,.string ⟨#[]⟩,.string ⟨#[]⟩] 88);rw [Zv,<-hV] at this;exact this
 refine ⟨fun p v h=>by rw [hb.cell (p:=p) (uP w p h)];exact h,by rw [hV];exact rl (mq w cs _) _,⟨hz.cell 0,hz.cell 1,hz.cell 2,hz.cell 3,hz.cell 4,hz.cell 5,hz.cell 6,hz.cell 7,fun o=>zM⟩,fun a0 a1 a2 a3 a4 a5 a6 a7=> ?_,fun a0 a1 a2 a3 a4 a5 a6 a7 p v hp h=> ?_⟩
 ·have k:w.heap.size<=w.heap.size+1:=by omega
  exact ((((((((hb.setCell k _).setCell k _).setCell k _).setCell k _).setCell k _).setCell k _).setCell k _).setCell k _).drew
 have e:∀(W:World) (o:Nat) (u:Value),(W.setCell ⟨w.heap.size+1,o,none⟩ u).cell? p=W.cell? p:=fun W o u=>Zs _ _ _ _ (fun q=>by have q:=congrArg Addr.block q;dsimp only at q;omega)
 simp_all
theorem Rk(w:World)(v0 v1 v2:Value)(r n0:Int)(x0:ByteArray)(h:C3 w v0 v1 v2 ([r],[n0],[x0])):
  Calls prog 31 #[.agg #[v0,v1,v2]] w (sP (0,0,0,109,0,n0,x0,⟨#[]⟩) w):=by
 obtain ⟨g1,c1,rfl,l1,h1⟩:=h.aab zq;have dQ:=h1 0 n0 rfl;obtain ⟨g2,c2,rfl,l2,h2⟩:=h.aaf zq;have fm:=h2 0 x0 rfl;obtain ⟨B0,h0⟩:=h.r0;obtain ⟨a0,q0,rfl⟩:=mC h0;have hV:=Nm w [.slice a0 1 q0,.slice (some ⟨g1,0,none⟩) 1 c1,.slice (some ⟨g2,0,none⟩) 1 c2];have dQ:=(hV _ rfl).1 _ _ dQ;have fm:=(hV _ rfl).1 _ _ fm;have HV:Aside _:=(hV _ rfl).2;clear h h0 h1 h2 hV;go_enter func31,ntmps31;go_upto_region 1 with fail;generalize (w.alloc (.cells #[.slice a0 1 q0,.slice (some ⟨g1,0,none⟩) 1 c1,.slice (some ⟨g2,0,none⟩) 1 c2] 84)).alloc (.cells #[.int .i64 0,.int .i64 0,.int .i64 0,.int .u8 0,.int .i64 0,.int .i64 0,.string ⟨#[]⟩,.string ⟨#[]⟩] 88)=V at*
 obtain ⟨S,hS⟩:∃S,Aside (w.heap.size=S):=⟨_,rfl⟩
 rw [hS.o] at HV |-
 rw [hS.o] at l1 l2;have s0:=HV.o.1.cell 0;have s1:=HV.o.1.cell 1;have s2:=HV.o.1.cell 2;simp only [Zb,Zf] at s0 s1 s2;obtain ⟨z0,z1,z2,z3,z4,z5,z6,z7,zf⟩:=HV.o.2.1
 have CS:Ch S V V.drew:=fun p v _ h=>h
 refine lV (S:=Ch S V) zk CS (fun aa=> ?_);refine tk 0 CS ?_;refine tk 1 CS ?_ (y:=ty zD);refine tk 2 CS ?_;refine tk 3 CS ?_ (y:=ty zO);refine tk 4 CS ?_;refine tk 5 CS ?_ (y:=ty zQ);refine tk 6 CS ?_;refine tk 7 CS ?_ (y:=ty zW);refine tk 8 CS ?_;refine an (i:=9) zk rfl (fun K hK=> ?_);go_simp;refine hK _ _ (HV.o.2.2.2 _ _ _ _ _ _ _ _) ?_;clear hK K;refine wpAnyH_done zk ?_ _;refine qn ?_;go_wp2;exact bodyPost_ret (v:=.agg #[.int .i64 0,.int .i64 0,.int .i64 0,.int .u8 109,.int .i64 0,.int .i64 n0,.string x0,.string ⟨#[]⟩]) (by simp [results,results31,go_sem,z0,z1,z2,z3,z4,z5,z6,z7]) rfl ⟨rfl,ym⟩
theorem Ry(w:World)(v0 v1 v2:Value)(r n0 n1:Int)(x0:ByteArray)(h:C3 w v0 v1 v2 ([r],[n0,n1],[x0])):
  Calls prog 33 #[.agg #[v0,v1,v2]] w (sP (0,0,0,109,n0,n1,x0,⟨#[]⟩) w):=by
 obtain ⟨g1,c1,rfl,l1,h1⟩:=h.aab zq;have dQ:=h1 0 n0 rfl;have gR:=h1 1 n1 rfl;obtain ⟨g2,c2,rfl,l2,h2⟩:=h.aaf zq;have fm:=h2 0 x0 rfl;obtain ⟨B0,h0⟩:=h.r0;obtain ⟨a0,q0,rfl⟩:=mC h0;have hV:=Nm w [.slice a0 1 q0,.slice (some ⟨g1,0,none⟩) 2 c1,.slice (some ⟨g2,0,none⟩) 1 c2];have dQ:=(hV _ rfl).1 _ _ dQ;have gR:=(hV _ rfl).1 _ _ gR;have fm:=(hV _ rfl).1 _ _ fm;have HV:Aside _:=(hV _ rfl).2;clear h h0 h1 h2 hV;go_enter func33,ntmps33;go_upto_region 1 with fail;generalize (w.alloc (.cells #[.slice a0 1 q0,.slice (some ⟨g1,0,none⟩) 2 c1,.slice (some ⟨g2,0,none⟩) 1 c2] 84)).alloc (.cells #[.int .i64 0,.int .i64 0,.int .i64 0,.int .u8 0,.int .i64 0,.int .i64 0,.string ⟨#[]⟩,.string ⟨#[]⟩] 88)=V at*
 obtain ⟨S,hS⟩:∃S,Aside (w.heap.size=S):=⟨_,rfl⟩
 rw [hS.o] at HV |-
 rw [hS.o] at l1 l2;have s0:=HV.o.1.cell 0;have s1:=HV.o.1.cell 1;have s2:=HV.o.1.cell 2;simp only [Zb,Zf] at s0 s1 s2;obtain ⟨z0,z1,z2,z3,z4,z5,z6,z7,zf⟩:=HV.o.2.1
 have CS:Ch S V V.drew:=fun p v _ h=>h
 refine lV (S:=Ch S V) zk CS (fun aa=> ?_);refine tk 0 CS ?_;refine tk 1 CS ?_ (y:=ty zD);refine tk 2 CS ?_;refine tk 3 CS ?_ (y:=ty zO);refine tk 4 CS ?_;refine tk 5 CS ?_ (y:=ty zD);refine tk 6 CS ?_;refine tk 7 CS ?_ (y:=ty yg);refine tk 8 CS ?_;refine tk 9 CS ?_ (y:=ty zQ);refine tk 10 CS ?_;refine tk 11 CS ?_ (y:=ty zW);refine tk 12 CS ?_;refine an (i:=13) zk rfl (fun K hK=> ?_);go_simp;refine hK _ _ (HV.o.2.2.2 _ _ _ _ _ _ _ _) ?_;clear hK K;refine wpAnyH_done zk ?_ _;refine qn ?_;go_wp2;exact bodyPost_ret (v:=.agg #[.int .i64 0,.int .i64 0,.int .i64 0,.int .u8 109,.int .i64 n0,.int .i64 n1,.string x0,.string ⟨#[]⟩]) (by simp [results,results33,go_sem,z0,z1,z2,z3,z4,z5,z6,z7]) rfl ⟨rfl,ym⟩
theorem Nj(w:World)(v0 v1 v2:Value)(r n0 n1:Int)(x0:ByteArray)(h:C3 w v0 v1 v2 ([r],[n0,n1],[x0])):
  Calls prog 34 #[.agg #[v0,v1,v2]] w (sP (0,0,0,105,n0,n1,⟨#[]⟩,x0) w):=by
 obtain ⟨g1,c1,rfl,l1,h1⟩:=h.aab zq;have dQ:=h1 0 n0 rfl;have gR:=h1 1 n1 rfl;obtain ⟨g2,c2,rfl,l2,h2⟩:=h.aaf zq;have fm:=h2 0 x0 rfl;obtain ⟨B0,h0⟩:=h.r0;obtain ⟨a0,q0,rfl⟩:=mC h0;have hV:=Nm w [.slice a0 1 q0,.slice (some ⟨g1,0,none⟩) 2 c1,.slice (some ⟨g2,0,none⟩) 1 c2];have dQ:=(hV _ rfl).1 _ _ dQ;have gR:=(hV _ rfl).1 _ _ gR;have fm:=(hV _ rfl).1 _ _ fm;have HV:Aside _:=(hV _ rfl).2;clear h h0 h1 h2 hV;go_enter func34,ntmps34;go_upto_region 1 with fail;generalize (w.alloc (.cells #[.slice a0 1 q0,.slice (some ⟨g1,0,none⟩) 2 c1,.slice (some ⟨g2,0,none⟩) 1 c2] 84)).alloc (.cells #[.int .i64 0,.int .i64 0,.int .i64 0,.int .u8 0,.int .i64 0,.int .i64 0,.string ⟨#[]⟩,.string ⟨#[]⟩] 88)=V at*
 obtain ⟨S,hS⟩:∃S,Aside (w.heap.size=S):=⟨_,rfl⟩
 rw [hS.o] at HV |-
 rw [hS.o] at l1 l2;have s0:=HV.o.1.cell 0;have s1:=HV.o.1.cell 1;have s2:=HV.o.1.cell 2;simp only [Zb,Zf] at s0 s1 s2;obtain ⟨z0,z1,z2,z3,z4,z5,z6,z7,zf⟩:=HV.o.2.1
 have CS:Ch S V V.drew:=fun p v _ h=>h
 refine lV (S:=Ch S V) zk CS (fun aa=> ?_);refine tk 0 CS ?_;refine tk 1 CS ?_ (y:=ty zD);refine tk 2 CS ?_;refine tk 3 CS ?_ (y:=ty zO);refine tk 4 CS ?_;refine tk 5 CS ?_ (y:=ty zD);refine tk 6 CS ?_;refine tk 7 CS ?_ (y:=ty yg);refine tk 8 CS ?_;refine tk 9 CS ?_ (y:=ty zQ);refine tk 10 CS ?_;refine tk 11 CS ?_ (y:=ty zW);refine tk 12 CS ?_;refine an (i:=13) zk rfl (fun K hK=> ?_);go_simp;refine hK _ _ (HV.o.2.2.2 _ _ _ _ _ _ _ _) ?_;clear hK K;refine wpAnyH_done zk ?_ _;refine qn ?_;go_wp2;exact bodyPost_ret (v:=.agg #[.int .i64 0,.int .i64 0,.int .i64 0,.int .u8 105,.int .i64 n0,.int .i64 n1,.string ⟨#[]⟩,.string x0]) (by simp [results,results34,go_sem,z0,z1,z2,z3,z4,z5,z6,z7]) rfl ⟨rfl,ym⟩
theorem Sf(w:World)(v0 v1 v2:Value)(r n0 n1:Int)(h:C3 w v0 v1 v2 ([r],[n0,n1],[])):
  Calls prog 35 #[.agg #[v0,v1,v2]] w (sP (0,0,0,100,n0,n1,⟨#[]⟩,⟨#[]⟩) w):=by
 obtain ⟨g1,c1,rfl,l1,h1⟩:=h.aab zq;have dQ:=h1 0 n0 rfl;have gR:=h1 1 n1 rfl;obtain ⟨B2,h2⟩:=h.r2;obtain ⟨a2,c2,rfl⟩:=mC h2;obtain ⟨B0,h0⟩:=h.r0;obtain ⟨a0,q0,rfl⟩:=mC h0;have hV:=Nm w [.slice a0 1 q0,.slice (some ⟨g1,0,none⟩) 2 c1,.slice a2 0 c2];have dQ:=(hV _ rfl).1 _ _ dQ;have gR:=(hV _ rfl).1 _ _ gR;have HV:Aside _:=(hV _ rfl).2;clear h h0 h1 h2 hV;go_enter func35,ntmps35;go_upto_region 1 with fail;generalize (w.alloc (.cells #[.slice a0 1 q0,.slice (some ⟨g1,0,none⟩) 2 c1,.slice a2 0 c2] 84)).alloc (.cells #[.int .i64 0,.int .i64 0,.int .i64 0,.int .u8 0,.int .i64 0,.int .i64 0,.string ⟨#[]⟩,.string ⟨#[]⟩] 88)=V at*
 obtain ⟨S,hS⟩:∃S,Aside (w.heap.size=S):=⟨_,rfl⟩
 rw [hS.o] at HV |-
 rw [hS.o] at l1;have s0:=HV.o.1.cell 0;have s1:=HV.o.1.cell 1;have s2:=HV.o.1.cell 2;simp only [Zb,Zf] at s0 s1 s2;obtain ⟨z0,z1,z2,z3,z4,z5,z6,z7,zf⟩:=HV.o.2.1
 have CS:Ch S V V.drew:=fun p v _ h=>h
 refine lV (S:=Ch S V) zk CS (fun aa=> ?_);refine tk 0 CS ?_;refine tk 1 CS ?_ (y:=ty zD);refine tk 2 CS ?_;refine tk 3 CS ?_ (y:=ty zO);refine tk 4 CS ?_;refine tk 5 CS ?_ (y:=ty zD);refine tk 6 CS ?_;refine tk 7 CS ?_ (y:=ty yg);refine tk 8 CS ?_;refine an (i:=9) zk rfl (fun K hK=> ?_);go_simp;refine hK _ _ (HV.o.2.2.2 _ _ _ _ _ _ _ _) ?_;clear hK K;refine wpAnyH_done zk ?_ _;refine qn ?_;go_wp2;exact bodyPost_ret (v:=.agg #[.int .i64 0,.int .i64 0,.int .i64 0,.int .u8 100,.int .i64 n0,.int .i64 n1,.string ⟨#[]⟩,.string ⟨#[]⟩]) (by simp [results,results35,go_sem,z0,z1,z2,z3,z4,z5,z6,z7]) rfl ⟨rfl,ym⟩
theorem OD(w:World)(v0 v1 v2:Value)(r n0:Int)(x0 x1:ByteArray)(h:C3 w v0 v1 v2 ([r],[n0],[x0,x1])):
  Calls prog 36 #[.agg #[v0,v1,v2]] w (sP (0,0,0,115,n0,0,x0,x1) w):=by
 obtain ⟨g1,c1,rfl,l1,h1⟩:=h.aab zq;have dQ:=h1 0 n0 rfl;obtain ⟨g2,c2,rfl,l2,h2⟩:=h.aaf zq;have fm:=h2 0 x0 rfl;have k21:=h2 1 x1 rfl;obtain ⟨B0,h0⟩:=h.r0;obtain ⟨a0,q0,rfl⟩:=mC h0;have hV:=Nm w [.slice a0 1 q0,.slice (some ⟨g1,0,none⟩) 1 c1,.slice (some ⟨g2,0,none⟩) 2 c2];have dQ:=(hV _ rfl).1 _ _ dQ;have fm:=(hV _ rfl).1 _ _ fm;have k21:=(hV _ rfl).1 _ _ k21;have HV:Aside _:=(hV _ rfl).2;clear h h0 h1 h2 hV;go_enter func36,ntmps36;go_upto_region 1 with fail;generalize (w.alloc (.cells #[.slice a0 1 q0,.slice (some ⟨g1,0,none⟩) 1 c1,.slice (some ⟨g2,0,none⟩) 2 c2] 84)).alloc (.cells #[.int .i64 0,.int .i64 0,.int .i64 0,.int .u8 0,.int .i64 0,.int .i64 0,.string ⟨#[]⟩,.string ⟨#[]⟩] 88)=V at*
 obtain ⟨S,hS⟩:∃S,Aside (w.heap.size=S):=⟨_,rfl⟩
 rw [hS.o] at HV |-
 rw [hS.o] at l1 l2;have s0:=HV.o.1.cell 0;have s1:=HV.o.1.cell 1;have s2:=HV.o.1.cell 2;simp only [Zb,Zf] at s0 s1 s2;obtain ⟨z0,z1,z2,z3,z4,z5,z6,z7,zf⟩:=HV.o.2.1
 have CS:Ch S V V.drew:=fun p v _ h=>h
 refine lV (S:=Ch S V) zk CS (fun aa=> ?_);refine tk 0 CS ?_;refine tk 1 CS ?_ (y:=ty zD);refine tk 2 CS ?_;refine tk 3 CS ?_ (y:=ty zO);refine tk 4 CS ?_;refine tk 5 CS ?_ (y:=ty zQ);refine tk 6 CS ?_;refine tk 7 CS ?_ (y:=ty zW);refine tk 8 CS ?_;refine tk 9 CS ?_ (y:=ty zQ);refine tk 10 CS ?_;refine tk 11 CS ?_ (y:=ty (by intro w' ab;have q:=ab ⟨g2,1,none⟩ _ (Nat.lt_succ_of_lt l2) k21;clear ab;go_simp;try with_reducible rfl));refine tk 12 CS ?_;refine an (i:=13) zk rfl (fun K hK=> ?_);go_simp;refine hK _ _ (HV.o.2.2.2 _ _ _ _ _ _ _ _) ?_;clear hK K;refine wpAnyH_done zk ?_ _;refine qn ?_;go_wp2;exact bodyPost_ret (v:=.agg #[.int .i64 0,.int .i64 0,.int .i64 0,.int .u8 115,.int .i64 n0,.int .i64 0,.string x0,.string x1]) (by simp [results,results36,go_sem,z0,z1,z2,z3,z4,z5,z6,z7]) rfl ⟨rfl,ym⟩

end