import Derived.Test.YtjclejjkganhfaaGreatDoorSA24
set_option linter.unusedSimpArgs false
set_option linter.unusedVariables false
set_option maxRecDepth 100000
set_option maxHeartbeats 64000000
namespace Go.Proofs.YtjclejjkganhfaaGreatDoor
open Go.Proofs.Tryz
section
open RowKit Lib Go.Sort Maps
open scoped Classical
theorem Pd{R}(hR:t7 R){l F G:qX}(hs:nh (lY R) 0 [] l= .inr F)(h1:∀x∈lY R,x∈G)(h2:∀x∈l,x∈G):(lY R).length+F.length<=G.length:=by
 obtain ⟨hF,g2,_,_,_⟩:=oN (pX _) hs
 have n2:(lY R++F).Nodup:=by
  exact kh3
 have:=oS n2 (H:=G) (fun x hx=>by
  rcases uU.1 hx with q | q
  ·exact h1 x q
  ·rcases g2 x q with p | p
   ·simp at p
   ·exact h2 x p)
 simp_all
theorem UI{R}(hR:t7 R){l G}{a}(eG:∀x∈G,∀y∈G,byO x=byO y->mB x=mB y->x=y)(dC:∀x∈G,mz x=0)(h1:∀x∈lY R,x∈G)(h2:∀x∈l,x∈G)(hlen:(lY R).length+l.length<=400)(hj:ny (lY R) l a):(∃cd,cd≠0/\a= .inl (-1,cd)/\¬zau G (lY R) l)\/∃fresh,a= .inr fresh/\∀x,x∈lY R++fresh↔x∈lY R\/x∈l:=by
 have hnf:∀ {cd:Nat},a= .inl (-1,cd)->¬zau G (lY R) l:=fun {cd} e ⟨T,t1,t2,t3,t4⟩=>by
  obtain ⟨fresh,q,_⟩:=Hr hR t1 (fun x hx y hy=>eG x (h1 x hx) y (t2 y hy)) t3 t4 hlen;have:=q a hj;rw [e] at this
  cases this
 obtain ⟨out,s1,s2⟩:=wt (S:=lY R) (T:=G) (fun x hx y hy=>eG x (h1 x hx) y (h1 y hy)) eG (fun x hx y hy=>eG x (h1 x hx) y hy) dC (l:=l) 0 (fresh:=[]) h2 (fun x hx=>ya);obtain ⟨g1,g2,g3,g4,g5⟩:=oN (pX _) s1
 grind [ny]
def Wn(G:qX)(K K':qH)(a:Nat)(l:qX):Prop:=(∀r,r≠a->K' r=K r)/\(∀x∈lY (K a),x∈lY (K' a))/\(∀x∈lY (K' a),x∈lY (K a)\/x∈l)/\(zau G (lY (K a)) l->∀x∈l,x∈lY (K' a))
def ol:DSt->List OpX->Nat×DSt
 | s,[]=>(0,s)
 | s,y::ys=>if (pJ s y).1=0 then ol (pJ s y).2 ys else pJ s y
theorem PN{s s'}{y}{ys}(h:pJ s y=(0,s')):ol s (y::ys)=ol s' ys:=by
 grind [pJ,ol]
theorem Hc{s s'}{y}{ys}{cd}(h:pJ s y=(cd,s'))(hc:cd≠0):ol s (y::ys)=(cd,s'):=by
 simp_all [pJ,ol,if_neg]
def rC(R:Rws)(u:Nat->Int)(F:qX):Prop:=∃ys,nH (lY R) ys/\F=ys.filter (fun x=> !pG u x)
def SL(ad:qF)(K K':qH)(st st':qD)(a:Nat)(l:qX)(v:Value):Prop:=(∃ix cd,ny (lY (K a)) l (.inl (ix,cd))/\cd≠0/\v=eV ad cd/\K'=K/\st'=st)\/(∃fresh R' F,ny (lY (K a)) l (.inr fresh)/\K'=lR K a R'/\t7 R'/\(∀x,x∈lY R'↔x∈lY (K a)\/x∈l)/\rC R' (oW (K a)) F/\v=eV ad (ol (st a) F).1/\st'=lR st a (ol (st a) F).2)
def Vx(gd:Nat->Option Obj)(B n bm i:Nat)(ad:qF)(G:qX)(K:qH)(st:qD)(N:qJ)(a:Nat)(l:qX)(w:qW)(e:Ending)(w':qW):Prop:=∃(v:Value) (K':qH) (D':Nat->List OpX) (st':qD),e= .returned v/\Aside (p9 gd B n bm K' st' N w'/\Below B w w'/\r9 n i G K' D' st' N/\Wn G K K' a l/\(zau G (lY (K a)) l->(st a).2.1=false->(st a).2.2.1=false->v= .nilIface)/\SL ad K K' st st' a l v)
theorem Gx(w)(c)(br)(o8)(R)(u)(h:L0 w c br o8 R)(hn:(lY R).length<=1000):
  qC 89 #[qP br,.agg #[qI (u 0),qI (u 1),qI (u 2),qI (u 3)]] w fun e w'=>∃ao cap F,e= .returned (.slice ao F.length cap)/\Aside ((∃ys,nH (lY R) ys/\F=ys.filter (fun x=> !pG u x))/\N5 w' (.slice ao F.length cap) F/\(F≠ []->∀g,(Value.slice ao F.length cap).ownBlock=some g->w.heap.size<=g/\g<w'.heap.size)/\qL w w'):=by
 refine (Qx w c br o8 R u h hn).mono ?_;rintro e w' ⟨val,ys,he,h2,h1,h3⟩
 rcases h1 with ⟨rfl,rfl⟩ | ⟨gb,cp,rfl,hg,hO⟩
 ·exact ⟨none,0,[],he,⟨[],h2,rfl⟩,.inl ⟨rfl,rfl⟩,fun q=>absurd rfl q,h3⟩
 refine ⟨_,cp,_,he,⟨ys,h2,rfl⟩,.inr ⟨gb,0,cp,rfl,fun j u hj=> ?_⟩,fun hne g hg'=> ?_,h3⟩
 ·rw [Ze];exact hO.cell j u hj
 cases hg'
 refine ⟨hg,?_⟩
 cases hF:ys.filter (fun x=> !pG u x) with
 | nil=>exact absurd hF hne
 | cons y t=>
  have:=hO.cell 0 (qI y.1) (by rw [hF];rfl);exact uP w' (qB gb) this
theorem Wh{w}{ao}{cap}{F}(h:N5 w (.slice ao F.length cap) F):F2 w ao F:=by
 rcases h with ⟨_,q⟩ | ⟨b,o,cp,q1,q2⟩
 ·exact .inl q
 exact kk0
theorem Pq{w}{ao}{cap}{F}(h:N5 w (.slice ao F.length cap) F){k}{x}(hk:F[k]? =some x):∃blk off,ao=some (qA blk off)/\zcH w blk (off+k*8) x.1 x.2.1 x.2.2.1 x.2.2.2.1 x.2.2.2.2.1 x.2.2.2.2.2.1 x.2.2.2.2.2.2.1 x.2.2.2.2.2.2.2:=by
 have hi:=(uK.1 hk).1
 rcases Wh h with rfl | ⟨blk,off,rfl,hc⟩
 ·simp at hi
 obtain ⟨t,b,n,kd,nd,o,s,v⟩:=x;refine ⟨blk,off,rfl,VG hc k hi ?_⟩
 simp_all
theorem NQ{gd}{B}{ad}{ow}{n bm}{pv fv}{bp br d}{dv}{c}{K}{st}{N}{i}{G}{D}(w)(a)(la)(lc)(l)(h:n9 gd B w ow n bm pv fv bp br d dv c K st N)(hI:r9 n i G K D st N)(hE:E7 B ad w)(ha:a<n)(hi:i<=155)(ar:F2 w la l)(hl:∀x∈l,x∈G)(jx:l.length<=200):
  qC 88 #[qP (bp a),.slice la l.length lc] w (Vx gd B n bm i ad G K st N a l w):=by
 have ha4:=uY ha h.X7;have hla:=hI.y9 ha;have p0:=(h.G0 a ha).1.c0;have lC:=tQ w (c a) (br a) (a:Int) (K a) (h.G4 a ha).1.G4 zj
 have HM:Aside (n9 gd B w ow n bm pv fv bp br d dv c K st N/\r9 n i G K D st N/\E7 B ad w/\F2 w la l/\∀x∈l,x∈G):=⟨h,hI,hE,ar,hl⟩
 go_enter func88,ntmps88;go_wp2_with fail;refine lC.mono ?_;rintro e w1 ⟨rfl,hb1⟩;obtain ⟨U,hU⟩:=ze (w1.alloc (.cells #[qI (oW (K a) 0),qI (oW (K a) 1),qI (oW (K a) 2),qI (oW (K a) 3)] 103));obtain ⟨P,hP⟩:=ze w1.heap.size
 have ah:qL w U:=by rw [hU.o];exact hb1.alloc hb1.size _
 have VU:J1 U P (oW (K a)):=by rw [hU.o,hP.o];exact heap_alloc_new w1 _
 have dK:=HM.o.1.later ah;have hPo:=HM.o.1.high P (by rw [hP.o];exact hb1.size);have p0:=(dK.G0 a ha).1.c0
 have iX:=Fd U (c a) (br a) (a:Int) (K a) la lc l (dK.G4 a ha).1 (HM.o.2.2.1.later ah).t.G6 (HM.o.2.2.2.1.later ah) (By (fun x hx=>HM.o.2.1.G9.ok x (HM.o.2.2.2.2 x hx))) zj zj (fun F hF=>by
  have:=Pd (HM.o.2.1.D6 a ha) hF (HM.o.2.1.G9.sub a ha) HM.o.2.2.2.2
  have:=HM.o.2.1.G9.y9
  omega)
 have HU:Aside (n9 gd B U ow n bm pv fv bp br d dv c K st N/\J1 U P (oW (K a))/\qL w U/\ow P=0):=⟨dK,VU,ah,hPo⟩
 go_upto_region 2 with fail;rw [show ((K a 0).length:Int)=oW (K a) 0 from rfl,show ((K a 1).length:Int)=oW (K a) 1 from rfl,show ((K a 2).length:Int)=oW (K a) 2 from rfl,show ((K a 3).length:Int)=oW (K a) 3 from rfl,<-hU.o,<-hP.o];go_wp2_with fail;refine iX.mono ?_;rintro e w2 ⟨ja,c',hj,hA,hm⟩
 rcases UI (HM.o.2.1.D6 a ha) HM.o.2.1.G9.one HM.o.2.1.G9.ok (HM.o.2.1.G9.sub a ha) HM.o.2.2.2.2 zj hj with ⟨cd,hcd,rfl,hnf⟩ | ⟨fresh,rfl,hfr⟩
 ·obtain ⟨hR,jv,rfl,hv⟩:=hm
  obtain rfl:jv=eV ad cd:=by
   rcases hv with ⟨_,q,_⟩ | ⟨q,_⟩
   ·exact q
   omega
  obtain ⟨bJ,hk2⟩:=HU.o.1.aa0 ha hA hR
  have H2:Aside (p9 gd B n bm K st N w2/\Below B w w2/\¬zau G (lY (K a)) l/\ny (lY (K a)) l (.inl (-1,cd))/\cd≠0):=⟨⟨_,_,_,_,_,_,_,_,by rw [sL] at bJ;exact bJ⟩,(HU.o.2.2.1.mono HM.o.1.l9).trans (HU.o.1.m8 hk2 (fun k e=>zj)),hnf,hj,hcd⟩
  rw [mL hcd];go_wp2;go_ret;exact ⟨_,K,D,st,rfl,H2.o.1,H2.o.2.1,HM.o.2.1,⟨fun _ _=>rfl,fun x hx=>hx,fun x hx=>.inl hx,fun q=>absurd q H2.o.2.2.1⟩,fun q=>absurd q H2.o.2.2.1,.inl ⟨_,_,H2.o.2.2.2.1,H2.o.2.2.2.2,by rw [mL H2.o.2.2.2.2];rfl,rfl,rfl⟩⟩
 obtain ⟨rfl,R',hR,hmem0⟩:=hm;obtain ⟨bJ,hk2⟩:=HU.o.1.aa0 ha hA hR
 have hmem:∀x,x∈lY R'↔x∈lY (K a)\/x∈l:=fun x=>(hmem0 x).trans (hfr x)
 have HJ:Aside (ny (lY (K a)) l (.inr fresh)):=hj;have hV2:J1 w2 P (oW (K a)):=(hk2.block P HU.o.2.1.lt (fun q=>by have q':=q;rw [HU.o.2.2.2] at q';omega)).trans HU.o.2.1
 obtain ⟨ow2,how2⟩:∃f,Aside (f=mQ ow U w2 (10+a)):=⟨_,rfl⟩
 rw [<-how2.o] at bJ
 have hP2:ow2 P=0:=by rw [how2.o,mg HU.o.2.1.lt];exact HU.o.2.2.2
 have cA:=bJ.later (uO _ w2).drew
 have dA:(lY R').length<=155:=by
  have:=oS hR.h.num.I7 (H:=G) (fun x hx=>((hmem x).1 hx).elim (HM.o.2.1.G9.sub a ha x) (HM.o.2.2.2.2 x));have:=HM.o.2.1.G9.y9;omega
 have hdf:=Gx w2.drew _ (br a) (a:Int) R' (oW (K a)) (by have:=(cA.G4 a ha).1.G4;rw [lU,lU] at this;exact this) zj
 have H2:Aside (n9 gd B w2.drew ow2 n bm pv fv bp br d dv (lR c a c') (lR K a R') st N/\Below B w w2.drew/\t7 R'/\(∀x,x∈lY R'↔x∈lY (K a)\/x∈l)/\ow2 P=0):=⟨cA,((HU.o.2.2.1.mono HM.o.1.l9).trans (HU.o.1.m8 hk2 (fun k e=>zj))).drew,hR.h,hmem,hP2⟩
 have SD:u7 w2.drew (bp a) (br a) (d a)/\J1 w2.drew P (oW (K a)):=⟨(cA.G0 a ha).1,hV2⟩
 go_upto_region 5 with fail;refine lV (S:=(fun w'=>u7 w' (bp a) (br a) (d a)/\J1 w' P (oW (K a)))) zk SD (fun aa=> ?_);refine tk 0 aa ?_ (y:=ty zm);refine tk 1 aa ?_ (y:=ty zm);refine tk 2 aa ?_ (y:=ty zm);refine tk 3 aa ?_ (y:=ty zI);refine tk 4 aa ?_ (y:=ty (by intro w' ab;have q0:=ab.2.at (i:=0) zj;have q1:=ab.2.at (i:=1) zj;have q2:=ab.2.at (i:=2) zj;have q3:=ab.2.at (i:=3) zj;clear ab;go_simp;try with_reducible rfl));refine tk 7 aa ?_ (y:=ty zm);refine an (i:=5) zk rfl (fun kQ hK=> ?_);go_simp;refine hdf.mono ?_;rintro e w3 ⟨ao,cap,F,rfl,H3⟩
 have S3:u7 w3 (bp a) (br a) (d a)/\J1 w3 P (oW (K a)):=⟨SD.1.same (H3.o.2.2.2.block _ SD.1.lt),SD.2.later H3.o.2.2.2⟩
 have aa:=S3;refine hK _ _ S3 ?_;refine qn ?_;refine an (i:=6) zk rfl (fun kQ hK=> ?_);go_simp;refine hK _ _ S3 ?_;refine wpAnyH_done zk ?_ _;refine qn ?_
 have hFd:BR F/\F.Nodup/\∀x,x∈F↔x∈lY R'/\x∉lY (K a):=by
  obtain ⟨ys,y1,y2⟩:=H3.o.1;rw [y2];exact Eu (HM.o.2.1.D6 a ha) H2.o.2.2.1 (fun x hx y hy=>H2.o.2.2.1.G5.one x ((H2.o.2.2.2.1 x).2 (.inl hx)) y hy) y1
 have hFl:F.length<=155:=by
  have:=oS hFd.2.1 (H:=G) (fun x hx=>(((H2.o.2.2.2.1 x).1 ((hFd.2.2 x).1 hx).1)).elim (HM.o.2.1.G9.sub a ha x) (HM.o.2.2.2.2 x));have:=HM.o.2.1.G9.y9;omega
 obtain ⟨cA,aZ⟩:=H2.o.1.acO H3.o.2.2.2
 obtain ⟨ow3,lL⟩:∃f,Aside (f=mQ ow2 w2.drew w3 4):=⟨_,rfl⟩
 rw [<-lL.o] at cA aZ
 have H4:Aside (n9 gd B w3 ow3 n bm pv fv bp br d (lR dv a (dv a)) (lR c a c') (lR K a R') (lR st a (st a)) N/\I1 (st a) (D a++F.take 0)/\N5 w3 (.slice ao F.length cap) F/\(F≠ []->∀g,(Value.slice ao F.length cap).ownBlock=some g->ow3 g=4)/\Below B w w3):=⟨by rw [sL,sL];exact cA,by rw [List.take_zero,Ye];exact HM.o.2.1.x8 a ha,H3.o.2.1,fun hne g hg=>aZ g (H3.o.2.2.1 hne g hg).1 (H3.o.2.2.1 hne g hg).2,H2.o.2.1.trans (H3.o.2.2.2.mono H2.o.1.l9)⟩
 have HF:Aside (BR F/\F.Nodup/\∀x,x∈F↔x∈lY R'/\x∉lY (K a)):=hFd;have HDF:Aside (rC R' (oW (K a)) F):=H3.o.1;go_wp2;go_loopg [35] F.length (fun kx s35 wr=>∃(k:Nat) (s:DSt) (ow':Nat->Nat) (v':Value),s35=qN k/\k<=F.length/\F.length - k<=kx/\Aside (n9 gd B wr ow' n bm pv fv bp br d (lR dv a v') (lR c a c') (lR K a R') (lR st a s) N/\I1 s (D a++F.take k)/\s.2.1=(st a).2.1/\((st a).2.1=true->k=0)/\((st a).2.1=false->(st a).2.2.1=false->s.2.2.1=false)/\N5 wr (.slice ao F.length cap) F/\(F≠ []->∀g,(Value.slice ao F.length cap).ownBlock=some g->ow' g=4)/\Below B w wr)/\Aside (ol (st a) F=ol s (F.drop k)))
 case atStart=>exact ⟨0,st a,ow3,dv a,rfl,uW _,uM _,⟨H4.o.1,H4.o.2.1,rfl,fun _=>rfl,fun _ q=>q,H4.o.2.2.1,H4.o.2.2.2.1,H4.o.2.2.2.2⟩,rfl⟩
 case round=>
  obtain ⟨k,s0,ow',v',rfl,hk,aY,A,AP⟩:=hrel;by_cases hlt:k<F.length
  ·have d1:qlt k F.length=true:=by simp;omega
   have wk:((k:Int)).toNat=k:=zj;have pk:(0:Int)<=(k:Int):=zj;have bk:(k:Int)<(F.length:Int):=zj
   obtain ⟨⟨t,b,m,kd,nd,o,s,v⟩,hx⟩:∃x,Aside (F[k]? =some x):=⟨F[k],uL hlt⟩
   obtain ⟨x,b6⟩:∃x:OpX,Aside (x=(t,b,m,kd,nd,o,s,v)):=⟨_,rfl⟩
   have HDR:Aside (F.drop k=x::F.drop (k+1)):=by
    have e:=Yg hlt
    have e2:F[k]=x:=by
     have:=hx.o;rw [uL hlt,<-b6.o] at this;exact Option.some.inj this
    show F.drop k=_
    rw [e,e2]
   have hFn:F≠ []:=fun q=>by rw [q] at hlt;simp at hlt
   have hxF:x∈F:=by rw [b6.o];exact uR hx.o
   have hxo:=H2.o.2.2.1.G5.ok x ((HF.o.2.2 x).1 hxF).1;obtain ⟨b1,o1,e1,E1⟩:=Pq A.o.2.2.2.2.2.1 hx.o;dsimp only at E1;subst e1;obtain ⟨q0,q1,q2,q3,q4,q5,q6,q7⟩:=E1;obtain ⟨U2,hU2⟩:=ze (wr.alloc (qOc t b m kd nd o s v));obtain ⟨Q,hQ⟩:=ze wr.heap.size
   have jG:qL wr U2.drew:=by rw [hU2.o];exact (zh wr _).drew
   have OX:m6 U2.drew Q x:=by rw [hU2.o,hQ.o,b6.o];exact m6.GA wr (t,b,m,kd,nd,o,s,v)
   have ft:=A.o.1.later jG;have hQo:=A.o.1.high Q (by rw [hQ.o];exact uM _);have fA:=ft.x8 a ha;rw [lU,lU] at fA;have hsz:=By (l:=[x]) (fun z hz=>by rw [Zc.1 hz];exact hxo) x zq
   have hDl:(D a++F.take k).length<=320:=by have:=HM.o.2.1.aa9 ha;rw [uS,Zp];omega
   have bB:=Do U2.drew x fA.1 ((HM.o.2.2.1.mono A.o.2.2.2.2.2.2.2).later jG).j (fun j hj=>ft.low j (by rw [fA.2 j hj];omega)) hsz.1 hsz.2 (by have:=A.o.2.1.y9;omega);have hst:=A.o.2.1.app fA.1.left.1 hDl hxo
   obtain ⟨gM,s2,hcs⟩:∃gM s2,Aside (pJ s0 x=(gM,s2)):=⟨(pJ s0 x).1,(pJ s0 x).2,rfl⟩
   rw [hcs.o] at bB hst;dsimp only at bB hst
   have fW:s0.2.1=false->s0.2.2.1=false->gM=0/\s2.2.2.1=false:=fun f1 f2=>by
    have cg:=A.o.2.1.y9;have fp:=sM hxo;have dA:=nG (mO x);have hc:=hcs.o;obtain ⟨B0,off0,wt0,lf0⟩:=s0;dsimp only at f1 f2 cg;subst f1;subst f2;rw [Bj hxo zj] at hc
    cases hc
    exact kh6
   have HST:Aside (((gM=0/\s0.2.1=false/\s2.2.1=false/\I1 s2 ((D a++F.take k)++ [x]))\/(gM=11/\s2.2.1=true/\I1 s2 (D a++F.take k)))/\(s0.2.1=false->s0.2.2.1=false->gM=0/\s2.2.2.1=false)):=⟨hst,fW⟩
   have HA:Aside (n9 gd B U2.drew ow' n bm pv fv bp br d (lR dv a v') (lR c a c') (lR K a R') (lR st a s0) N/\s0.2.1=(st a).2.1/\((st a).2.1=true->k=0)/\((st a).2.1=false->(st a).2.2.1=false->s0.2.2.1=false)/\N5 U2.drew (.slice (some (qA b1 o1)) F.length cap) F/\(∀g,(Value.slice (some (qA b1 o1)) F.length cap).ownBlock=some g->ow' g=4)/\Below B w U2.drew/\m6 U2.drew Q x/\ow' Q=0):=⟨ft,A.o.2.2.1,A.o.2.2.2.1,A.o.2.2.2.2.1,A.o.2.2.2.2.2.1.later jG,A.o.2.2.2.2.2.2.1 hFn,A.o.2.2.2.2.2.2.2.trans (jG.mono A.o.1.l9),OX,hQo⟩
   have SD:u7 U2.drew (bp a) (br a) (d a)/\m6 U2.drew Q x:=⟨(ft.G0 a ha).1,OX⟩
   rw [b6.o] at bB;unfold Iw at bB;dsimp only at bB;obtain ⟨u0,b9⟩:=za wr;subst b9;go_upto_region 8 with fail;rw [<-hU2.o,<-hQ.o];refine lV (S:=(fun w'=>u7 w' (bp a) (br a) (d a)/\m6 w' Q x)) zk SD (fun aa=> ?_);refine tk 0 aa ?_ (y:=ty zm);refine tk 1 aa ?_ (y:=ty zm);refine tk 2 aa ?_ (y:=ty zm);refine tk 3 aa ?_ (y:=ty xr);refine tk 4 aa ?_ (y:=ty (by intro w' ab;have q2:=ab.2;rw [b6.o] at q2;obtain ⟨q0,q1,q2,q3,q4,q5,q6,q7,-⟩:=m6.cells q2;dsimp only at q0 q1 q2 q3 q4 q5 q6 q7;clear ab;go_simp;try with_reducible rfl));refine an (i:=5) zk rfl (fun kQ hK=> ?_);go_simp;refine bB.mono ?_;rintro e w5 ⟨rfl,H5⟩;obtain ⟨dv5,ft,cW⟩:=HA.o.1.aaI (st':=s2) ha (by rw [lU];exact H5.o)
   have S5:u7 w5 (bp a) (br a) (d a)/\m6 w5 Q x:=⟨(ft.G0 a ha).1,(cW.block Q HA.o.2.2.2.2.2.2.2.1.lt (fun q=>by have q':=q;rw [HA.o.2.2.2.2.2.2.2.2] at q';omega)).trans HA.o.2.2.2.2.2.2.2.1⟩
   have hss:∀ {α:Type} (f:Nat->α) (x y:α),lR (lR f a x) a y=lR f a y:=fun f x y=>by funext r;unfold lR;split<;>rfl
   rw [hss,hss] at ft
   have hin4:∀g,(Value.slice (some (qA b1 o1)) F.length cap).ownBlock=some g->g<U2.drew.heap.size:=fun g hg=>HA.o.1.F (by rw [HA.o.2.2.2.2.2.1 g hg];omega)
   have H6:Aside (n9 gd B w5 (mQ ow' U2.drew w5 (20+a)) n bm pv fv bp br d (lR dv a dv5) (lR c a c') (lR K a R') (lR st a s2) N/\N5 w5 (.slice (some (qA b1 o1)) F.length cap) F/\(∀g,(Value.slice (some (qA b1 o1)) F.length cap).ownBlock=some g->mQ ow' U2.drew w5 (20+a) g=4)/\Below B w w5):=⟨ft,no HA.o.2.2.2.2.1 (fun g hg=>cW.block g (hin4 g hg) (fun q=>by have q':=q;rw [HA.o.2.2.2.2.2.1 g hg] at q';omega)),fun g hg=>(mg (hin4 g hg)).trans (HA.o.2.2.2.2.2.1 g hg),HA.o.2.2.2.2.2.2.1.trans (HA.o.1.m8 cW (fun k e=>zj))⟩
   refine hK _ _ S5 ?_;refine qn ?_;refine an (i:=6) zk rfl (fun kQ hK=> ?_);go_simp;refine hK _ _ S5 ?_;refine wpAnyH_done zk ?_ _;refine qn ?_
   rcases HST.o.1 with ⟨rfl,hon,hso,hdi⟩ | ⟨rfl,hso,hdi⟩
   ·have HD:Aside (s0.2.1=false/\s2.2.1=false/\I1 s2 (D a++F.take (k+1))):=⟨hon,hso,by
     have e:F.take (k+1)=F.take k++ [x]:=by rw [b6.o,ZF,hx.o];rfl
     rw [e,<-Zr]
     exact hdi⟩
    rw [show eV ad 0= .nilIface from rfl];go_wp2;go_roundg (F.length - (k+1))
    case measure=>omega
    case rel=>exact ⟨k+1,s2,_,dv5,zJ,zj,uM _,⟨H6.o.1,HD.o.2.2,by rw [HD.o.2.1,<-HD.o.1,HA.o.2.1],fun q=>(by rw [<-HA.o.2.1,HD.o.1] at q;cases q),fun f1 f2=>(HST.o.2 (by rw [HA.o.2.1];exact f1) (HA.o.2.2.2.1 f1 f2)).2,H6.o.2.1,fun _=>H6.o.2.2.1,H6.o.2.2.2⟩,by
     show ol (st a) F=ol s2 (F.drop (k+1))
     rw [AP.o,HDR.o,PN hcs.o]⟩
   have HD:Aside (s2.2.1=true/\I1 s2 (D a++F.take k)):=⟨hso,hdi⟩
   rw [mL (show (11:Nat)≠0 by omega)];go_wp2;go_ret;refine ⟨_,lR K a R',lR D a (D a++F.take k),lR st a s2,rfl,⟨_,_,_,_,_,_,_,_,H6.o.1⟩,H6.o.2.2.2,HM.o.2.1.aaQ ha HM.o.2.2.2.2 H2.o.2.2.2.1 H2.o.2.2.1 HF.o.1 HF.o.2.1 HF.o.2.2 HA.o.2.2.1 (fun q=>by rw [HD.o.1] at q;cases q) HD.o.2,⟨fun r hr=>lP _ _ hr,fun x hx=>by rw [lU];exact (H2.o.2.2.2.1 x).2 (.inl hx),fun x hx=>by rw [lU] at hx;exact (H2.o.2.2.2.1 x).1 hx,fun _ x hx=>vn⟩,fun _ f1 f2=> ?_,.inr ⟨fresh,R',F,HJ.o,rfl,H2.o.2.2.1,H2.o.2.2.2.1,HDF.o,by rw [AP.o,HDR.o,Hc hcs.o zj,mL (show (11:Nat)≠0 by omega)];rfl,by rw [AP.o,HDR.o,Hc hcs.o zj]⟩⟩;have:=(HST.o.2 (by rw [HA.o.2.1];exact f1) (HA.o.2.2.2.1 f1 f2)).1;omega
  have d1:qlt k F.length=false:=zl;obtain rfl:k=F.length:=zj;have HA:Aside (_):=A.o;go_wp2;go_ret;exact ⟨_,lR K a R',lR D a (D a++F.take F.length),lR st a s0,rfl,⟨_,_,_,_,_,_,_,_,HA.o.1⟩,HA.o.2.2.2.2.2.2.2,HM.o.2.1.aaQ ha HM.o.2.2.2.2 H2.o.2.2.2.1 H2.o.2.2.1 HF.o.1 HF.o.2.1 HF.o.2.2 HA.o.2.2.2.1 (fun q=>⟨by rw [<-HA.o.2.2.1];exact q,uM _⟩) HA.o.2.1,⟨fun r hr=>lP _ _ hr,fun x hx=>by rw [lU];exact (H2.o.2.2.2.1 x).2 (.inl hx),fun x hx=>by rw [lU] at hx;exact (H2.o.2.2.2.1 x).1 hx,fun _ x hx=>vn⟩,fun _ _ _=>rfl,.inr ⟨fresh,R',F,HJ.o,rfl,H2.o.2.2.1,H2.o.2.2.2.1,HDF.o,by rw [AP.o,List.drop_length];rfl,by rw [AP.o,List.drop_length];rfl⟩⟩
theorem TO(g n cap k)(w)(h:k<=cap):(Instr.slice 54 (.slice (some ⟨g,0,none⟩) n cap) none (some (.int .i64 (k:Int))) none).run prog w= .ok (.slice (some ⟨g,0,none⟩) k cap) w:=by
 exact kn5
theorem Tu(g n cap k)(h:k+1<=n)(hc:n<=cap):∃a:Addr,(k+1<cap->a=⟨g,(k+1)*8,none⟩)/\∀w:World,(Instr.slice 54 (.slice (some ⟨g,0,none⟩) n cap) (some (.int .i64 ((k:Int)+1))) none none).run prog w= .ok (.slice (some a) (n - (k+1)) (cap - (k+1))) w:=by
 have h1:(k:Int)+1<=(n:Int):=zj;have h2:(n:Int)<=(cap:Int):=zj;have h0:(0:Int)<=(k:Int)+1:=zj;have tk:((k:Int)+1).toNat=k+1:=zj;by_cases e:k+1=cap
 ·refine ⟨⟨g,0,none⟩,fun q=>zj,fun w=> ?_⟩;subst e;have en:n=k+1:=zj;subst en;go_simp
 have e1:¬(cap=k+1):=fun q=>e q.symm
 refine ⟨⟨g,(k+1)*8,none⟩,fun _=>rfl,fun w=> ?_⟩;go_simp
theorem za5(g n cap k:Nat)(h:k+1<=n)(hc:n<=cap):∃V:Value,∀w:World,(Instr.slice 54 (.slice (some ⟨g,0,none⟩) n cap) (some (.int .i64 (k:Int))) (some (.int .i64 ((k:Int)+1))) (some (.int .i64 (n:Int)))).run prog w= .ok V w:=by
 have h1:(k:Int)+1<=(n:Int):=zj;have h2:(n:Int)<=(cap:Int):=zj;have h0:(0:Int)<=(k:Int):=zj;have h3:(k:Int)<=(k:Int)+1:=zj;have tk:((k:Int)+1).toNat=k+1:=zj;have e3:¬(n=k):=zj;refine ⟨.slice (some ⟨g,k*8,none⟩) 1 (n - k),fun w=> ?_⟩;go_simp
theorem zaK(g m cap)(hc:m+1<=cap)(w):(Instr.slice 54 (.slice (some ⟨g,0,none⟩) m cap) (some (.int .i64 (m:Int))) (some (.int .i64 ((m:Int)+1))) none).run prog w= .ok (.slice (some ⟨g,m*8,none⟩) 1 (cap - m)) w:=by
 have h1:(m:Int)+1<=(cap:Int):=zj;have h0:(0:Int)<=(m:Int):=zj;have h3:(m:Int)<=(m:Int)+1:=zj;have tk:((m:Int)+1).toNat=m+1:=zj;have e3:¬(cap=m):=zj;go_simp
theorem zc4:∀w:World,(zeroValue 149).run prog w= .ok (.agg #[.int .i64 0,.int .i64 0,.bool false,.int .i64 0,.int .i64 0,.int .i64 0,.int .i64 0,.slice none 0 0]) w:=fun w=>by
 go_simp
theorem zcu:(Value.agg #[.int .i64 0,.int .i64 0,.bool false,.int .i64 0,.int .i64 0,.int .i64 0,.int .i64 0,.slice none 0 0]).cells.size=8:=rfl
theorem XM:(Builtin.zeroCells (Value.agg #[.int .i64 0,.int .i64 0,.bool false,.int .i64 0,.int .i64 0,.int .i64 0,.int .i64 0,.slice none 0 0]).cells 1).toList= [.int .i64 0,.int .i64 0,.bool false,.int .i64 0,.int .i64 0,.int .i64 0,.int .i64 0,.slice none 0 0]:=by
 simp [Builtin.zeroCells,Value.cells];rfl
theorem Tv{N}{k}(hk:k<N.length){cur:Array Value}{cap}(hc:N.length<=cap)(hcs:cur.size=cap*8)(ht:cur.toList.take (N.length*8)=mN nY N):
  mN nY (N.take k)=cur.toList.take (k*8)/\(cur.toList.take (k*8)++mN nY (N.drop (k+1))++cur.toList.drop (k*8+(mN nY (N.drop (k+1))).length)).length=cap*8/\∀j u,(mN nY (N.drop (k+1)))[j]? =some u->cur[(k+1)*8+j]? =some u:=by
 have hl:(mN nY (N.drop (k+1))).length=(N.length - (k+1))*8:=by rw [mv mj,ZL]
 have dN:cur.toList.length=cap*8:=by rw [ZP,hcs]
 refine ⟨?_,?_,fun j u hj=> ?_⟩
 ·rw [<-CE mj N k zj,<-ht,List.take_take];congr 1;omega
 ·grind
 have hj':=hj;rw [<-rY mj N (k+1) zj,<-ht,ZT,Yj] at hj
 simp_all
theorem Xu{B:Nat}(w:World)(v:Value)(N:List nO)(k:Nat)(hrow:w.ownsRow B 149 8 v N.length (mN nY N))(hk:k<N.length)(hlen:N.length<=1000):
  Calls prog 115 #[v,.int .i64 (k:Int),.int .i64 ((k:Int)+1)] w fun e w'=>∃v',e= .returned v'/\Aside (w'.ownsRow B 149 8 v' (N.eraseIdx k).length (mN nY (N.eraseIdx k))/\m7 (fun j=>some j=v.ownBlock) w w'/\v'.ownBlock=v.ownBlock):=by
 obtain ⟨i0,hi,aD,aw,aJ⟩:=info_parts OU
 rcases hrow.2 with ⟨_,q⟩ | ⟨g,cap,cur,rfl,hBg,hg,hnc,hcm,hcs,htake⟩
 ·omega
 obtain ⟨r1,r2,r3⟩:=Tv hk hnc hcs htake;obtain ⟨V1,aG⟩:=za5 g N.length cap k zj hnc
 have aN:=fun W=>TO g N.length cap k W zj
 obtain ⟨a3,ha3,gZ⟩:=Tu g N.length cap k zj hnc
 obtain ⟨m,hm⟩:∃m,N.length=m+1:=⟨N.length - 1,zj⟩
 have ae:=run_append_room (P:=prog) w.drew 54 54 149 i0 underlying54 hi g k cap cur hg a3 (N.length - (k+1)) (cap - (k+1)) (mN nY (N.drop (k+1))) (by rw [mv mj,ZL,aw]) (fun j u hj=>by
   have d9:=(uK.1 hj).1
   rw [mv mj,ZL] at d9
   rw [ha3 zj,Addr.add_lit]
   show w.cell? ⟨g,(k+1)*8+j,none⟩=some u
   have:=r3 j u hj
   unfold World.cell?
   dsimp only
   rw [hg]
   exact this) (sJ CI _) zj (by rw [aw,mv mj,ZL,hcs];omega)
 rw [aw] at ae;obtain ⟨X,hX⟩:=ze (w.drew.setRow g (cur.toList.take (k*8)++mN nY (N.drop (k+1))++cur.toList.drop (k*8+(mN nY (N.drop (k+1))).length)).toArray);rw [<-hX.o] at ae;have em:k+(N.length - (k+1))=m:=zj;rw [em] at ae
 have hgX:X.heap[g]? =some (.cells (cur.toList.take (k*8)++mN nY (N.drop (k+1))++cur.toList.drop (k*8+(mN nY (N.drop (k+1))).length)).toArray 149 (0,0)):=by rw [hX.o];exact setRow_heap w.drew g cur _ _ _ hg
 have hkX:m7 (fun j=>j=g) w X:=by rw [hX.o];exact ⟨rfl,rfl,rfl,zq,fun j _ hj=>setRow_other w.drew g j _ hj⟩
 have iR:=fun W=>zaK g m cap zj W
 have hmc:(m+1)*8<=cap*8:=zj
 have hclr:∀ty,(Builtin.clear_ #[54] ty #[.slice (some ⟨g,m*8,none⟩) 1 (cap - m)]).run prog X= .ok (.tuple #[]) (X.setCells g (m*8) [.int .i64 0,.int .i64 0,.bool false,.int .i64 0,.int .i64 0,.int .i64 0,.int .i64 0,.slice none 0 0]):=fun ty=>by
  have h:=pR (P:=prog) X 54 149 ty _ underlying54 zc4 g (m*8) 1 (cap - m) zj (by rw [XM];simp [Value.oneCell']) (fun j hj=>by
   rw [zcu] at hj
   unfold World.cell?
   dsimp only
   rw [hgX]
   simp only [List.getElem?_toArray]
   rw [Yl]
   exact ⟨_,uL (by rw [r2];omega)⟩) (fun j hj=>by simp [World.frozen?,hgX])
  rw [XM] at h;exact h
 have HF:Aside ((X.setCells g (m*8) [.int .i64 0,.int .i64 0,.bool false,.int .i64 0,.int .i64 0,.int .i64 0,.int .i64 0,.slice none 0 0]).ownsRow B 149 8 (.slice (some ⟨g,0,none⟩) m cap) (N.eraseIdx k).length (mN nY (N.eraseIdx k))/\m7 (fun j=>some j=some g) w (X.setCells g (m*8) [.int .i64 0,.int .i64 0,.bool false,.int .i64 0,.int .i64 0,.int .i64 0,.int .i64 0,.slice none 0 0])):=by
  have hel:(N.eraseIdx k).length=m:=uu
  have hef:mN nY (N.eraseIdx k)=cur.toList.take (k*8)++mN nY (N.drop (k+1)):=by
   rw [List.eraseIdx_eq_take_drop_succ,<-r1];simp [mN]
  have hl:(cur.toList.take (k*8)++mN nY (N.drop (k+1))).length=m*8:=by
   rw [<-hef,mv mj,hel]
  refine ⟨?_,hkX.then (lZ g _ (m*8) X) (fun j _ e=>e) |>.mono (fun j _ e=>by have e':j=g:=e;rw [e'])⟩;rw [hel,hef];refine ⟨hl,.inr ⟨g,cap,_,rfl,hBg,mD g _ (m*8) X _ _ hgX,zj,hcm,?_,?_⟩⟩
  ·rw [pT];simpa using r2
  obtain ⟨C1,C2,hC,hC1⟩:∃C1 C2,cur.toList.drop (k*8+(mN nY (N.drop (k+1))).length)=C1++C2/\C1.length=8:=by
   refine ⟨(cur.toList.drop (k*8+(mN nY (N.drop (k+1))).length)).take 8,(cur.toList.drop (k*8+(mN nY (N.drop (k+1))).length)).drop 8,(ZA 8 _).symm,?_⟩;rw [Zp,ZL,ZP,hcs,mv mj,ZL];omega
  have ho:=oE [.int .i64 0,.int .i64 0,.bool false,.int .i64 0,.int .i64 0,.int .i64 0,.int .i64 0,.slice none 0 0] (cur.toList.take (k*8)++mN nY (N.drop (k+1))) C1 C2 (cur.toList.take (k*8)++mN nY (N.drop (k+1))++cur.toList.drop (k*8+(mN nY (N.drop (k+1))).length)).toArray (by rw [hC];simp) (by rw [hC1];rfl);rw [hl] at ho;rw [ho,Zr,Yn (Nat.le_of_eq hl.symm),Zl (Nat.le_of_eq hl)]
 have dne:((k:Int)==(k:Int)+1)=false:=xL;rw [hm] at aG aN gZ ae;rw [show ((m+1:Nat):Int)=(m:Int)+1 by omega] at aG;rw [hm];rw [show m+1 - (k+1)=m - k by omega] at gZ ae;clear hrow hBg hg hnc hcm hcs htake r1 r2 r3 ha3 hgX hkX hmc em hm hlen hk;go_enter func115,ntmps115;go_upto_region 5 with fail;refine lV (S:=(fun _=>True)) zk trivial (fun aa=> ?_);refine tk 0 aa ?_ (y:=ty zm);refine tk 1 aa ?_ (y:=ty zm);refine tk 2 aa ?_ (y:=ty zm);refine tk 3 aa ?_ (y:=ty zm);refine tk 4 aa ?_ (y:=ty zm);refine tk 5 aa ?_ (y:=ty zm);refine an (i:=6) zk rfl (fun kQ hK=> ?_);simp only [ZU,ZZ,Ya];refine Lib.wp_append_run _ _ _ _ _ rfl (.slice (some ⟨g,0,none⟩) k cap) (.slice (some a3) (m - k) (cap - (k+1))) ?ahs ?ahx _ X ae ?_
 case ahs=>rfl
 case ahx=>rfl
 refine hK _ _ trivial ?_;clear hK kQ;refine qn ?_;refine an (i:=7) zk rfl (fun kQ hK=> ?_);go_simp;refine hK _ _ trivial ?_;clear hK kQ;refine wpAnyH_done zk ?_ _;refine qn ?_;clear ae aG aN gZ;go_wp2;go_ret;exact ⟨_,rfl,HF.o.1,HF.o.2,rfl⟩
def zdn(gd:Nat->Option Obj)(B n bm:Nat)(pv:Value)(bp br d:Nat->Nat)(dv:Nat->Value)(c:Nat->Nat->Nat)(K:qH)(st:qD)(N:qJ)(k:Nat)(x:nO)(w w':qW):Prop:=N[k]? =some x/\∃ow' fv',n9 gd B w' ow' n bm pv fv' bp br d dv c K st (N.eraseIdx k)/\P7 w' ow' n x/\Below B w w'
theorem De{B}{w:qW}{fo}{fc}{N}(h:w.ownsRow B 149 8 (.slice fo N.length fc) N.length (mN nY N)){k}{x}(hx:N[k]? =some x):∃blk off,fo=some (qA blk off)/\∀c u,(nY x)[c]? =some u->w.cell? (qA blk (off+k*8+c))=some u:=(zdc mj h).e mj hx
theorem LQ{gd}{B}{ad}{ow}{n bm}{pv fv}{bp br d}{dv}{c}{K}{st}{N}(w)(p8)(h:n9 gd B w ow n bm pv fv bp br d dv c K st N)(hE:E7 B ad w)(hN:N.length<=30)(ho: -9223372036854775808<=p8/\p8<=9223372036854775807):
  qC 87 #[qP bm,qI p8] w fun e w'=>(¬(0<=p8/\p8<(N.length:Int))/\e= .returned (.tuple #[.agg #[qI 0,qI 0,.bool false,qI 0,qI 0,qI 0,qI 0,qE],eV ad 6])/\Aside (qL w w'))\/(∃(k:Nat) (x:nO),p8=(k:Int)/\k<N.length/\e=qT #[Ws x,.nilIface]/\Aside (zdn gd B n bm pv bp br d dv c K st N k x w w')):=by
 obtain ⟨S,hS⟩:=ze w.heap.size;obtain ⟨U,hU⟩:=ze (w.alloc (.cells #[qI 0,qI 0,.bool false,qI 0,qI 0,qI 0,qI 0,qE] 149));have ah:qL w U:=yC
 have hSc:U.heap[S]? =some (.cells #[qI 0,qI 0,.bool false,qI 0,qI 0,qI 0,qI 0,qE] 149 (0,0)):=by rw [hU.o,hS.o];exact heap_alloc_new w _
 have dK:=h.later ah;obtain ⟨fo,fc,hfv⟩:=mC h.L8;subst hfv;have m1:=dK.D8.c1;have iZ:=GE U p8 dK.D8 ho
 have HM:Aside (n9 gd B w ow n bm pv (.slice fo N.length fc) bp br d dv c K st N/\E7 B ad w/\n9 gd B U ow n bm pv (.slice fo N.length fc) bp br d dv c K st N/\qL w U/\U.heap[S]? =some (.cells #[qI 0,qI 0,.bool false,qI 0,qI 0,qI 0,qI 0,qE] 149 (0,0))):=⟨h,hE,dK,ah,hSc⟩
 have en:=(hE.later ah).t.G6.c5
 have lowE:5<S:=by have h1:=hE.t.G6.low;have h2:=hE.t.G6.size;rw [hS.o];show _<_;omega
 have HL:Aside (5<S):=lowE;by_cases ar:0<=p8/\p8<(N.length:Int)
 ·obtain ⟨k,rfl⟩:∃k:Nat,p8=(k:Int):=⟨p8.toNat,zj⟩
  have hk:k<N.length:=zj;rw [decide_eq_true ar] at iZ
  obtain ⟨⟨x1,x2,x3,x4,x5,x6,x7⟩,hx⟩:∃x,Aside (N[k]? =some x):=⟨N[k],uL hk⟩
  obtain ⟨x,b6⟩:∃x:nO,Aside (x=(x1,x2,x3,x4,x5,x6,x7)):=⟨_,rfl⟩
  obtain ⟨blk,off,rfl,hc⟩:=De HM.o.2.2.1.L8 hx.o;have r0:=hc 0 _ rfl;have r1:=hc 1 _ rfl;have r2:=hc 2 _ rfl;have r3:=hc 3 _ rfl;have r4:=hc 4 _ rfl;have r5:=hc 5 _ rfl;have r6:=hc 6 _ rfl;have r7:=hc 7 _ rfl;simp only [ZG] at r0;dsimp only at r0 r1 r2 r3 r4 r5 r6 r7;unfold At at r7;dsimp only at r7;have wk:((k:Int)).toNat=k:=zj;obtain ⟨P,hP⟩:=ze U.heap.size;obtain ⟨V,hV⟩:=ze (U.alloc (.cells #[qN x1,qN x2,.bool x3,qI (x4 0),qI (x4 1),qI (x4 2),qI (x4 3),.slice x5 x7.length x6] 149))
  have ai:qL U V:=by rw [hV.o];exact zh U _
  have lO:=HM.o.2.2.1.later ai
  have XV:GB V P x:=by rw [hV.o,hP.o,b6.o];exact GB.GA U (x1,x2,x3,x4,x5,x6,x7)
  have fj:=(ai.block S ((uN.1 HM.o.2.2.2.2).1)).trans HM.o.2.2.2.2;have hdel:=Xu V (.slice (some (qA blk off)) N.length fc) N k lO.L8 hk zj;have v1:=lO.D8.c1
  have HV:Aside (n9 gd B V ow n bm pv (.slice (some (qA blk off)) N.length fc) bp br d dv c K st N/\GB V P x/\V.heap[S]? =some (.cells #[qI 0,qI 0,.bool false,qI 0,qI 0,qI 0,qI 0,qE] 149 (0,0))/\qL w V/\ow P=0/\ow S=0/\S≠P):=⟨lO,XV,fj,zi HM.o.2.2.2.1 ai,HM.o.1.high P (by have:=HM.o.2.2.2.1.size;rw [hP.o];exact this),HM.o.1.high S xw,by have:=(uN.1 HM.o.2.2.2.2).1;rw [hP.o];omega⟩
  go_enter func87,ntmps87;go_upto_region 1 with fail;rw [<-hU.o,<-hS.o];go_wp2_with fail;refine iZ.mono ?_;rintro e w1 ⟨rfl,rfl⟩;go_upto_region 4 with fail;rw [<-hV.o,<-hP.o];go_wp2_with fail;refine hdel.mono ?_;rintro e w3 ⟨v3,rfl,H3⟩
  have hnV:P7 V ow n x:=by
   have q:=HV.o.1.B8 _ (uR hx.o);rw [b6.o];exact q
  obtain ⟨ju,jz⟩:=HV.o.1.abt (v:=v3) (N':=N.eraseIdx k) H3.o.2.1 H3.o.1 (fun g hg=>.inl (by rw [<-H3.o.2.2];exact hg)) (fun y hy=>HV.o.1.B8 y (ZN hy));have hnF:=HV.o.1.adk hnV jz (fun j q=>zj) (w2:=w3) 3
  have k0:∀j,j<V.heap.size->ow j=0->w3.heap[j]? =V.heap[j]? :=fun j hj e=>H3.o.2.1.block j hj (fun q=>by have:=HV.o.1.of j (Eq.symm q);omega)
  have gB:G7 w3 bm pv (.slice (some (qA blk off)) N.length fc):=(H3.o.2.1.block bm HV.o.1.D8.lt (fun q=>by have:=HV.o.1.of bm (Eq.symm q);rw [HV.o.1.om] at this;omega)).trans HV.o.1.D8;have n1:=gB.c1;have nf:=gB.fz 1;have X3:=HV.o.2.1.same (k0 P HV.o.2.1.lt HV.o.2.2.2.2.1);have Z3:=(k0 S (uN.1 HV.o.2.2.1).1 HV.o.2.2.2.2.2.1).trans HV.o.2.2.1;have X4:GB (w3.setCell (qA bm 1) v3) P x:=X3.same (mR bm [v3] 1 w3 P (fun q=>by have:=HV.o.2.2.2.2.1;rw [q,HV.o.1.om] at this;omega));have Z4:(w3.setCell (qA bm 1) v3).heap[S]? =some (.cells #[qI 0,qI 0,.bool false,qI 0,qI 0,qI 0,qI 0,qE] 149 (0,0)):=(mR bm [v3] 1 w3 S (fun q=>by have:=HV.o.2.2.2.2.2.1;rw [q,HV.o.1.om] at this;omega)).trans Z3;obtain ⟨w4,cR⟩:=ze (w3.setCell (qA bm 1) v3);rw [<-cR.o] at ju jz hnF X4 Z4
  have H4:Aside (n9 gd B w4 (mQ ow V w3 3) n bm pv v3 bp br d dv c K st (N.eraseIdx k)/\P7 w4 (mQ ow V w3 3) n x/\Below B w w4/\mQ ow V w3 3 S=0):=⟨ju,hnF,(HV.o.2.2.2.1.mono HM.o.1.l9).trans (HV.o.1.m8 jz (fun j e=>zj)),(mg (uN.1 HV.o.2.2.1).1).trans HV.o.2.2.2.2.2.1⟩
  rw [b6.o] at X4;obtain ⟨q0,q1,q2,q3,q4,q5,q6,q7,-⟩:=X4.cells;unfold At at q7;dsimp only at q0 q1 q2 q3 q4 q5 q6 q7;have z0:w4.cell? (qB S)=some (qI 0):=zT;have z1:w4.cell? (qA S 1)=some (qI 0):=zT;have z2:w4.cell? (qA S 2)=some (.bool false):=zT;have z3:w4.cell? (qA S 3)=some (qI 0):=zT;have z4:w4.cell? (qA S 4)=some (qI 0):=zT;have z5:w4.cell? (qA S 5)=some (qI 0):=zT;have z6:w4.cell? (qA S 6)=some (qI 0):=zT;have z7:w4.cell? (qA S 7)=some qE:=zT
  have zf:∀o,w4.frozen? (qA S o)=false:=fun o=>by simp [World.frozen?,Z4]
  obtain ⟨v3o,v3c,hv3⟩:=mC H3.o.1;subst hv3;go_upto_region 5 with fail;rw [<-cR.o];go_wp2;(try simp only [Exit.inBlock,Exit.then]);refine bodyPost_ret (v:=.tuple #[.agg #[qN x1,qN x2,.bool x3,qI (x4 0),qI (x4 1),qI (x4 2),qI (x4 3),.slice x5 x7.length x6],.nilIface]) ?_ rfl (.inr ⟨k,x,rfl,hk,by rw [b6.o];rfl,?_⟩)
  ·exact kc3
  have cV:=lZ S [qN x1,qN x2,.bool x3,qI (x4 0),qI (x4 1),qI (x4 2),qI (x4 3),.slice x5 x7.length x6] 0 w4
  have fP:∀j,j=S->mQ ow V w3 3 j=0:=fun j e=>by rw [e];exact H4.o.2.2.2
  refine ⟨by rw [b6.o];exact hx.o,_,_,H4.o.1.Z cV fP,⟨H4.o.2.1.S8,H4.o.2.1.to_,no H4.o.2.1.ops (fun g hg=>cV.block g (H4.o.1.F (by rw [H4.o.2.1.L4 g hg];omega)) (fun q=>by have:=fP g q;rw [H4.o.2.1.L4 g hg] at this;omega)),H4.o.2.1.L4⟩,H4.o.2.2.1.trans (cV.m8 H4.o.1.l9 (fun j e=>by have e':=e;have:=HM.o.1.l9;rw [e',hS.o];exact this))⟩
 rw [decide_eq_false ar] at iZ;have SD:U.drew.cell? (qB 5)=some (.iface 437 (.pointer (some (ad 5)))):=en;obtain ⟨V,hV⟩:=ze U.drew
 have SV:V.cell? (qB 5)=some (.iface 437 (.pointer (some (ad 5)))):=by rw [hV.o];exact en
 have Z4:V.heap[S]? =some (.cells #[qI 0,qI 0,.bool false,qI 0,qI 0,qI 0,qI 0,qE] 149 (0,0)):=by rw [hV.o];exact hSc
 have SW:(V.setCells S 0 [qI 0,qI 0,.bool false,qI 0,qI 0,qI 0,qI 0,qE]).cell? (qB 5)=some (.iface 437 (.pointer (some (ad 5)))):=(uV (a:=(qB 5)) (mR S _ 0 V 5 uo)).trans SV;have z0:V.cell? (qB S)=some (qI 0):=zT;have z1:V.cell? (qA S 1)=some (qI 0):=zT;have z2:V.cell? (qA S 2)=some (.bool false):=zT;have z3:V.cell? (qA S 3)=some (qI 0):=zT;have z4:V.cell? (qA S 4)=some (qI 0):=zT;have z5:V.cell? (qA S 5)=some (qI 0):=zT;have z6:V.cell? (qA S 6)=some (qI 0):=zT;have z7:V.cell? (qA S 7)=some qE:=zT
 have zf:∀o,V.frozen? (qA S o)=false:=fun o=>by simp [World.frozen?,Z4]
 have HIN:Aside (¬(0<=p8/\p8<(N.length:Int))):=ar;go_enter func87,ntmps87;go_upto_region 1 with fail;rw [<-hU.o,<-hS.o];go_wp2_with fail;refine iZ.mono ?_;rintro e w1 ⟨rfl,rfl⟩;go_upto_region 2 with fail;refine lV (S:=(fun w'=>w'.cell? (qB 5)=some (.iface 437 (.pointer (some (ad 5)))))) zk SD (fun aa=> ?_);rw [<-hV.o];have aa:=SV;refine tk 0 aa ?_ (y:=ty zm);refine tk 1 aa ?_ (y:=ty xJ);refine an (i:=2) zk rfl (fun kQ hK=> ?_);go_simp;refine hK _ _ SW ?_;refine qn ?_;refine an (i:=3) zk rfl (fun kQ hK=> ?_);go_simp;refine hK _ _ SW ?_;refine wpAnyH_done zk ?_ _;refine qn ?_;go_wp2;(try simp only [Exit.inBlock,Exit.then]);refine bodyPost_ret (v:=.tuple #[.agg #[qI 0,qI 0,.bool false,qI 0,qI 0,qI 0,qI 0,qE],.iface 437 (.pointer (some (ad 5)))]) ?_ rfl (.inl ⟨HIN.o,rfl,?_⟩)
 ·exact kc3
 have ai:qL w V:=by rw [hV.o];exact HM.o.2.2.2.1.drew
 exact mV (b:=S) ai xw 0 [qI 0,qI 0,.bool false,qI 0,qI 0,qI 0,qI 0,qE]
theorem sH{gd}{B}{ad}{ow}{n bm}{pv fv}{bp br d}{dv}{c}{K}{st}{N}(w)(x)(h:n9 gd B w ow n bm pv fv bp br d dv c K st N)(hE:E7 B ad w)(ho:(-9223372036854775808<=x/\x<=9223372036854775807)):
  qC 85 #[qP bm,qI x] w fun e w'=>(¬(0<=x/\x<(n:Int))/\e=qT #[.pointer none,eV ad 2]/\Aside (qL w w'))\/(∃r:Nat,r<n/\x=(r:Int)/\e=qT #[qP (bp r),.nilIface]/\w'=w):=by
 have m0:=h.D8.c0;obtain ⟨po,pc,eD⟩:=mC h.K9;have eb:=hE.t.G6.Q1.c1;by_cases ar:0<=x/\x<(n:Int)
 ·obtain ⟨r,rfl⟩:∃r:Nat,x=(r:Int):=⟨x.toNat,zj⟩
  have hr:r<n:=zj
  have hcell:∃g,po=some (qB g)/\w.cell? (qA g r)=some (qP (bp r)):=by
   have hp:=h.K9
   rcases hp.2 with ⟨_,q⟩ | ⟨g,cap,cur,q,_⟩
   ·omega
   rw [eD] at q
   cases q
   refine ⟨g,rfl,?_⟩;rw [eD] at hp;rw [hp.cellAt r zj,CM bp hr]
  obtain ⟨g,rfl,r0⟩:=hcell;have d0:decide ((r:Int)<0)=false:=zq;have d1:decide ((n:Int)<=(r:Int))=false:=zl;have dg:decide (n<=r)=false:=zl;have wk:((r:Int)).toNat=r:=zj;have pk:(0:Int)<=(r:Int):=zj;have bk:(r:Int)<(n:Int):=zj;subst eD;clear h hE ar;go_enter func85,ntmps85;go_wp2;go_ret2;exact .inr ⟨r,hr,rfl,rfl,rfl⟩
 subst eD;have SD:w.drew.cell? (qB 0)=some (.iface 437 (.pointer (some (ad 1)))):=eb;have HI:Aside (¬(0<=x/\x<(n:Int))):=ar;clear h hE;by_cases h0:x<0
 ·have d0:decide (x<0)=true:=by simp;omega
  exact kb6
 have d0:decide (x<0)=false:=zl;have d1:decide ((n:Int)<=x)=true:=zl;exact kb6
theorem IV{gd}{B}{ad}{ow}{n bm}{pv fv}{bp br d}{dv}{c}{K}{st}{N}(w)(r)(hr:r<n)(h:n9 gd B w ow n bm pv fv bp br d dv c K st N)(hE:E7 B ad w):
  qC 99 #[qP bm,qN r] w fun e w'=>e=qT #[qP (br r),.nilIface]/\w'=w:=by
 have hf:=h.X7;have hp:=sH w (r:Int) h hE ⟨zj,zj⟩;have p0:=(h.G0 r hr).1.c0;go_enter func99,ntmps99;go_wp2_with fail;refine hp.mono ?_;rintro e w1 (⟨q,_⟩ | ⟨r',hr',hrr,rfl,rfl⟩)
 ·omega
 obtain rfl:r=r':=zj;go_wp2;go_ret2;exact kh6
def zeA(n:Nat)(ad:qF)(K:qH)(st:qD)(N:qJ)(x y:Int)(v:Value)(K':qH)(st':qD)(N':qJ):Prop:=K'=K/\N'=N/\((¬(0<=x/\x<(n:Int))/\v=eV ad 2/\st'=st)\/∃r:Nat,r<n/\x=(r:Int)/\v=eV ad (JS (st r).2.1 y)/\st'=lR st r (BH (st r) y))
def zdL(n:Nat)(ad:qF)(K:qH)(st:qD)(N:qJ)(x:Int)(v:Value)(K':qH)(st':qD)(N':qJ):Prop:=N'=N/\((¬(0<=x/\x<(n:Int))/\v=eV ad 2/\K'=K/\st'=st)\/∃r:Nat,r<n/\x=(r:Int)/\v= .nilIface/\Ti K K' st st' r)
def RS(gd:Nat->Option Obj)(B n bm i:Nat)(G:qX)(K:qH)(a:Nat->Prop)(Q:Value->(Nat->Rws)->(Nat->DSt)->List nO->Prop)(w:qW)(e:Ending)(w':qW):Prop:=∃(v:Value) (K':qH) (D':Nat->List OpX) (st':qD) (N':qJ),e= .returned v/\Aside (p9 gd B n bm K' st' N' w'/\Below B w w'/\r9 n i G K' D' st' N'/\N'.length<=30/\∀r,r<n->¬a r->∀x∈lY (K r),x∈lY (K' r))/\Aside (Q v K' st' N')
theorem UW{gd}{B}{ad}{n bm}{K}{st}{N}{i}{G}{D}(w)(x y)(h:p9 gd B n bm K st N w)(hI:r9 n i G K D st N)(hN:N.length<=30)(hE:E7 B ad w)(hx:(-9223372036854775808<=x/\x<=9223372036854775807))(hy:(-9223372036854775808<=y/\y<=9223372036854775807)):
  qC 47 #[qP bm,qI x,qI y] w (RS gd B n bm i G K (fun _=>False) (zeA n ad K st N x y) w):=by
 obtain ⟨ow,pv,fv,bp,br,d,dv,c,hm⟩:=h;have hp:=sH w x hm hE hx
 have HM:Aside (n9 gd B w ow n bm pv fv bp br d dv c K st N/\r9 n i G K D st N/\E7 B ad w):=⟨hm,hI,hE⟩
 go_enter func47,ntmps47;go_wp2_with fail;refine hp.mono ?_;rintro e w1 (⟨q,rfl,HB⟩ | ⟨r,hr,rfl,rfl,rfl⟩)
 ·rw [mL (show (2:Nat)≠0 by omega)];have HQ:Aside (¬(0<=x/\x<(n:Int))):=q;go_wp2;go_ret;exact ⟨_,K,D,st,N,rfl,⟨⟨_,_,_,_,_,_,_,_,HM.o.1.later HB.o⟩,HB.o.mono HM.o.1.l9,HM.o.2.1,hN,fun r _ _ x hx=>hx⟩,rfl,rfl,.inl ⟨HQ.o,by rw [mL (show (2:Nat)≠0 by omega)];rfl,rfl⟩⟩
 have p1:=(HM.o.1.G0 r hr).1.c1;have fA:=HM.o.1.x8 r hr;obtain ⟨B0,off,waits,left⟩:DSt:=st r
 have hc:=fun (q:DSt) (e:st r=q)=>Xk (ad:=ad) (B:=q.1) (off:=q.2.1) (waits:=q.2.2.1) (left:=q.2.2.2) w1 y (by have:=fA.1;rw [e] at this;exact this) HM.o.2.2.j.H.aaX hy.2
 have fC:=hc (st r) rfl;go_wp2_with fail;refine fC.mono ?_;rintro e w2 ⟨rfl,H2⟩;obtain ⟨kY,bJ,hk2⟩:=HM.o.1.aaI (st':=BH (st r) y) hr ⟨dv r,H2.o.1,H2.o.2.mono (fun k _ e=>.inl e),fun g hg=>.inl hg⟩
 have HF:Aside (p9 gd B n bm K (lR st r (BH (st r) y)) N w2/\Below B w1 w2):=⟨⟨_,_,_,_,_,_,_,_,bJ⟩,HM.o.1.m8 hk2 (fun k e=>zj)⟩
 obtain ⟨ev,a8⟩:=ze (eV ad (JS (st r).2.1 y));rw [<-a8.o];go_wp2;go_ret;exact ⟨_,K,D,_,N,rfl,⟨HF.o.1,HF.o.2,HM.o.2.1.cut hr y,hN,fun r _ _ x hx=>hx⟩,rfl,rfl,.inr ⟨r,hr,rfl,a8.o,rfl⟩⟩
theorem TZ{gd}{B}{ad}{n bm}{K}{st}{N}{i}{G}{D}(w)(x)(h:p9 gd B n bm K st N w)(hI:r9 n i G K D st N)(hN:N.length<=30)(hE:E7 B ad w)(hi:i<=155)(hx:(-9223372036854775808<=x/\x<=9223372036854775807)):
  qC 49 #[qP bm,qI x] w (RS gd B n bm i G K (fun r=>x=(r:Int)) (zdL n ad K st N x) w):=by
 obtain ⟨ow,pv,fv,bp,br,d,dv,c,hm⟩:=h;have hp:=sH w x hm hE hx
 have HM:Aside (n9 gd B w ow n bm pv fv bp br d dv c K st N/\r9 n i G K D st N/\E7 B ad w):=⟨hm,hI,hE⟩
 go_enter func49,ntmps49;go_wp2_with fail;refine hp.mono ?_;rintro e w1 (⟨q,rfl,HB⟩ | ⟨r,hr,rfl,rfl,rfl⟩)
 ·rw [mL (show (2:Nat)≠0 by omega)];have HQ:Aside (¬(0<=x/\x<(n:Int))):=q;go_wp2;go_ret;exact ⟨_,K,D,st,N,rfl,⟨⟨_,_,_,_,_,_,_,_,HM.o.1.later HB.o⟩,HB.o.mono HM.o.1.l9,HM.o.2.1,hN,fun r _ _ x hx=>hx⟩,rfl,.inl ⟨HQ.o,by rw [mL (show (2:Nat)≠0 by omega)];rfl,rfl,rfl⟩⟩
 have hb:=Nl w1 r HM.o.1 HM.o.2.1 HM.o.2.2 hr hi;go_wp2_with fail;refine hb.mono ?_;rintro e w2 ⟨K',st',rfl,H2⟩;go_wp2;go_ret;exact ⟨_,K',D,st',N,rfl,⟨H2.o.1,H2.o.2.1,H2.o.2.2.1,hN,fun q _ hq x hx=>by rw [H2.o.2.2.2.1 q (fun e=>hq (by rw [e]))];exact hx⟩,rfl,.inr ⟨r,hr,rfl,rfl,H2.o.2.2.2.2⟩⟩
def zck(gd:Nat->Option Obj)(B n bm i:Nat)(ad:qF)(G:qX)(K:qH)(st:qD)(N:qJ)(P:Nat->OpX->Nat->Prop)(x:Int)(w:qW)(e:Ending)(w':qW):Prop:=∃(y:OpX) (cd:Nat) (G':qX) (K':qH) (D':Nat->List OpX) (st':qD) (N':qJ),e=qT #[mH y,eV ad cd]/\Aside (p9 gd B n bm K' st' N' w'/\Below B w w'/\r9 n (i+1) G' K' D' st' N'/\N'.length<=30/\(∀r,r<n->∀x∈lY (K r),x∈lY (K' r))/\((cd≠0/\G'=G)\/(cd=0/\G'=G++ [y]/\byO y=x/\0<=x/\x<(n:Int)))/\(∀r:Nat,x=(r:Int)->r<n->∃y0 cd0,P r y0 cd0/\(cd0=0->(st r).2.1=false->(st r).2.2.1=false->cd=0/\y=y0)/\DoX K K' st st' r y0 cd0 y cd)/\(∀r:Nat,x≠(r:Int)->K' r=K r/\st' r=st r)/\N'=N)
theorem zdX{gd}{B}{ad}{n bm}{K}{st}{N}{i}{G}{D}(w)(x)(y)(h:p9 gd B n bm K st N w)(hI:r9 n i G K D st N)(hN:N.length<=30)(hE:E7 B ad w)(hi:i<=155)(hx:(-9223372036854775808<=x/\x<=9223372036854775807))(P)(jq:∀(U:qW) (c0:Nat->Nat) (p b0 d0 r:Nat),r<n->x=(r:Int)->u7 U p b0 d0->C8 B U c0 b0 (r:Int) (K r)->E7 B ad U->qC 152 #[qP p,mH y] U (Tt ad U (K r) r (P r))):
  qC 81 #[qP bm,qI x,mH y] w (zck gd B n bm i ad G K st N P x w):=by
 obtain ⟨ow,pv,fv,bp,br,d,dv,c,hm⟩:=h;obtain ⟨t,b,m,kd,nd,o,s,v⟩:=y;obtain ⟨S,hS⟩:=ze w.heap.size;obtain ⟨U,hU⟩:=ze ((w.alloc (qOc t b m kd nd o s v)).alloc qZc)
 have ah:qL w U:=by rw [hU.o];exact (zh w _).alloc zq _
 have O0:m6 U S (t,b,m,kd,nd,o,s,v):=by rw [hU.o,hS.o];exact (uT _ _ _ zq).trans (m6.GA w (t,b,m,kd,nd,o,s,v))
 have Z0:m6 U (S+1) lQ:=by
  rw [hU.o,hS.o];have:=m6.GA (w.alloc (qOc t b m kd nd o s v)) lQ;exact kc7
 have dK:=hm.later ah;have je:=hE.later ah;have hp:=sH U x dK je hx
 have HM:Aside (n9 gd B w ow n bm pv fv bp br d dv c K st N/\r9 n i G K D st N/\E7 B ad w/\n9 gd B U ow n bm pv fv bp br d dv c K st N/\qL w U/\m6 U S (t,b,m,kd,nd,o,s,v)/\m6 U (S+1) lQ/\E7 B ad U/\ow (S+1)=0/\B<=S):=⟨hm,hI,hE,dK,ah,O0,Z0,je,hm.high _ (by rw [hS.o];omega),by rw [hS.o];exact hm.l9⟩
 have HNX:Aside (∀(U:qW) (c0:Nat->Nat) (p b0 d0 r:Nat),r<n->x=(r:Int)->u7 U p b0 d0->C8 B U c0 b0 (r:Int) (K r)->E7 B ad U->qC 152 #[qP p,mH (t,b,m,kd,nd,o,s,v)] U (Tt ad U (K r) r (P r))):=jq;unfold mH;go_enter func81,ntmps81;go_upto_region 1 with fail;rw [<-hU.o,<-hS.o];go_wp2_with fail;refine hp.mono ?_;rintro e w1 (⟨q,rfl,HB⟩ | ⟨r,hr,rfl,rfl,rfl⟩)
 ·rw [mL (show (2:Nat)≠0 by omega)];have HQ:Aside (¬(0<=x/\x<(n:Int))):=q;have Z1:=HM.o.2.2.2.2.2.2.1.later HB.o;obtain ⟨z0,z1,z2,z3,z4,z5,z6,z7,zf⟩:=m6.ct Z1;go_wp2;(try simp only [Exit.inBlock,Exit.then]);refine bodyPost_ret (v:=.tuple #[.agg qZa,.iface 437 (.pointer (some (ad (2 - 1))))]) ?_ rfl ?_
  ·exact kc3
  have cV:=lZ (S+1) qZl 0 w1;have hm1:=HM.o.2.2.2.1.later HB.o;exact ⟨lQ,2,G,K,D,st,N,rfl,⟨_,_,_,_,_,_,_,_,hm1.Z cV (fun k e=>by have e':=e;rw [e'];exact HM.o.2.2.2.2.2.2.2.2.1)⟩,((HM.o.2.2.2.2.1.mono HM.o.1.l9).trans (HB.o.mono HM.o.2.2.2.1.l9)).trans (cV.m8 hm1.l9 (fun k e=>vE)),HM.o.2.1.up zj,hN,fun r _ x hx=>hx,.inl ⟨zj,rfl⟩,fun r e hr=>absurd ⟨zj,zj⟩ HQ.o,fun r _=>⟨rfl,rfl⟩,rfl⟩
 have hd:=zcY w1 r (t,b,m,kd,nd,o,s,v) HM.o.2.2.2.1 HM.o.2.1 HM.o.2.2.2.2.2.2.2.1 hr hi (P r) (fun W hW=>HNX.o W (c r) (bp r) (br r) (d r) r hr rfl ((HM.o.2.2.2.1.later hW).G0 r hr).1 ((HM.o.2.2.2.1.later hW).G4 r hr).1 (HM.o.2.2.2.2.2.2.2.1.later hW));unfold mH at hd;obtain ⟨j0,j1,j2,j3,j4,j5,j6,j7,-⟩:=HM.o.2.2.2.2.2.1.cells;dsimp only at j0 j1 j2 j3 j4 j5 j6 j7;go_wp2_with fail;refine hd.mono ?_;rintro e w2 ⟨⟨t',b',m',kd',nd',o',s',v'⟩,cd,G',K',D',st',rfl,H2⟩;unfold mH;dsimp only;obtain ⟨ow',pv',fv',bp',br',d',kY,c',bJ,hlone⟩:=H2.o.1;have hSl:=HM.o.2.2.2.2.2.2.1.lt;have fG:=hlone (S+1) hSl HM.o.2.2.2.2.2.2.2.2.1;have Z2:m6 w2 (S+1) lQ:=fG.2.trans HM.o.2.2.2.2.2.2.1;obtain ⟨z0,z1,z2,z3,z4,z5,z6,z7,zf⟩:=m6.ct Z2
 have H3:Aside (n9 gd B w2 ow' n bm pv' fv' bp' br' d' kY c' K' st' N/\ow' (S+1)=0):=⟨bJ,fG.1⟩
 obtain ⟨er,aB⟩:=ze (eV ad cd);rw [<-aB.o];go_wp2;(try simp only [Exit.inBlock,Exit.then]);refine bodyPost_ret (v:=.tuple #[.agg (qOa t' b' m' kd' nd' o' s' v'),er]) ?_ rfl ?_
 ·exact kc3
 have cV:=lZ (S+1) (qOl t' b' m' kd' nd' o' s' v') 0 w2;exact ⟨(t',b',m',kd',nd',o',s',v'),cd,G',K',D',st',N,by rw [<-aB.o];rfl,⟨_,_,_,_,_,_,_,_,H3.o.1.Z cV (fun k e=>by have e':=e;rw [e'];exact H3.o.2)⟩,((HM.o.2.2.2.2.1.mono HM.o.1.l9).trans H2.o.2.1).trans (cV.m8 H3.o.1.l9 (fun k e=>vE)),H2.o.2.2.1,hN,H2.o.2.2.2.1,H2.o.2.2.2.2.1.imp id (fun q=>⟨q.1,q.2.1,q.2.2,zj,zj⟩),fun r' e hr'=>by obtain rfl:r=r':=zj;obtain ⟨a1,a2,a3,a4,_,a6⟩:=H2.o.2.2.2.2.2;exact ⟨a1,a2,a3,a4,a6⟩,fun r' e=>by obtain ⟨_,_,_,_,a5,_⟩:=H2.o.2.2.2.2.2;exact a5 r' (fun q=>e (by rw [q])),rfl⟩
def DL(a b:Nat)(v:Nat->Int):nO:=(a,b,true,v,none,0,[])
def zaL(gd:Nat->Option Obj)(B n bm:Nat)(ad:qF)(K:qH)(st:qD)(N:qJ)(p8:Int)(w:qW)(e:Ending)(w':qW):Prop:=(¬(0<=p8/\p8<(N.length:Int))/\(∃t v,e= .returned (.iface t v)/\Value.iface t v=eV ad 6)/\Aside (p9 gd B n bm K st N w'/\Below B w w'))\/(∃k:Nat,p8=(k:Int)/\k<N.length/\e= .returned .nilIface/\Aside (p9 gd B n bm K st (N.eraseIdx k) w'/\Below B w w'))
theorem Vr{gd}{B}{ad}{n bm}{K}{st}{N}(w)(p8)(h:p9 gd B n bm K st N w)(hE:E7 B ad w)(hN:N.length<=30)(ho:(-9223372036854775808<=p8/\p8<=9223372036854775807)):
  qC 43 #[qP bm,qI p8] w (zaL gd B n bm ad K st N p8 w):=by
 obtain ⟨ow,pv,fv,bp,br,d,dv,c,hm⟩:=h;have ht:=LQ w p8 hm hE hN ho
 have HM:Aside (n9 gd B w ow n bm pv fv bp br d dv c K st N/\E7 B ad w):=⟨hm,hE⟩
 go_enter func43,ntmps43;go_wp2_with fail;refine ht.mono ?_;rintro e w1 (⟨q,rfl,HB⟩ | ⟨k,⟨x1,x2,x3,x4,x5,x6,x7⟩,rfl,hk,rfl,HT⟩)
 ·have HQ:Aside (¬(0<=p8/\p8<(N.length:Int))):=q;rw [mL (show (6:Nat)≠0 by omega)];go_wp2;go_ret;have hb:qL w (w1.alloc (.cells #[qI 0,qI 0,.bool false,qI 0,qI 0,qI 0,qI 0,qE] 149)):=HB.o.alloc HB.o.size _;exact .inl ⟨HQ.o,⟨_,_,rfl,(mL (show (6:Nat)≠0 by omega)).symm⟩,⟨_,_,_,_,_,_,_,_,HM.o.1.later hb⟩,hb.mono HM.o.1.l9⟩
 unfold Ws At;dsimp only;go_wp2;go_ret;obtain ⟨_,ow',fv',hm',hn',hb'⟩:=HT.o;have hb:qL w1 (w1.alloc (.cells #[qN x1,qN x2,.bool x3,qI (x4 0),qI (x4 1),qI (x4 2),qI (x4 3),.slice x5 x7.length x6] 149)):=zh w1 _;exact .inr ⟨k,rfl,hk,rfl,⟨_,_,_,_,_,_,_,_,hm'.later hb⟩,hb'.trans (hb.mono hm'.l9)⟩
def zdg(ad:qF)(N:qJ)(p8:Int)(v:Value)(N':qJ):Prop:=(¬(0<=p8/\p8<(N.length:Int))/\v=eV ad 6/\N'=N)\/∃(k:Nat) (x:nO),p8=(k:Int)/\N[k]? =some x/\((N.length<30/\v= .nilIface/\N'=N++ [x])\/(30<=N.length/\v=eV ad 8/\N'=N))
def UY(gd:Nat->Option Obj)(B n bm:Nat)(ad:qF)(K:qH)(st:qD)(N:qJ)(p8:Int)(w:qW)(e:Ending)(w':qW):Prop:=∃(v:Value) (N':qJ),e= .returned v/\Aside (p9 gd B n bm K st N' w'/\Below B w w'/\N'.length<=30/\∀x∈N',x∈N)/\Aside (zdg ad N p8 v N')
theorem On{gd}{B}{ad}{n bm}{K}{st}{N}(w)(p8)(h:p9 gd B n bm K st N w)(hE:E7 B ad w)(hN:N.length<=30)(ho:(-9223372036854775808<=p8/\p8<=9223372036854775807)):
  qC 45 #[qP bm,qI p8] w (UY gd B n bm ad K st N p8 w):=by
 obtain ⟨ow,pv,fv,bp,br,d,dv,c,hm⟩:=h;obtain ⟨fo,fc,hfv⟩:=mC hm.L8;subst hfv;have m1:=hm.D8.c1;have en:=hE.t.G6.c5;have iZ:=GE w p8 hm.D8 ho
 have HM:Aside (n9 gd B w ow n bm pv (.slice fo N.length fc) bp br d dv c K st N/\E7 B ad w):=⟨hm,hE⟩
 by_cases ar:0<=p8/\p8<(N.length:Int)
 ·obtain ⟨k,rfl⟩:∃k:Nat,p8=(k:Int):=⟨p8.toNat,zj⟩
  have hk:k<N.length:=zj;rw [decide_eq_true ar] at iZ
  obtain ⟨⟨x1,x2,x3,x4,x5,x6,x7⟩,hx⟩:∃x,Aside (N[k]? =some x):=⟨N[k],uL hk⟩
  have fO:=Er w (x1,x2,x3,x4,x5,x6,x7) HM.o.1 HM.o.2 (HM.o.1.B8 _ (uR hx.o));unfold Ws At at fO;dsimp only at fO;obtain ⟨blk,off,rfl,hc⟩:=De HM.o.1.L8 hx.o;have r0:=hc 0 _ rfl;have r1:=hc 1 _ rfl;have r2:=hc 2 _ rfl;have r3:=hc 3 _ rfl;have r4:=hc 4 _ rfl;have r5:=hc 5 _ rfl;have r6:=hc 6 _ rfl;have r7:=hc 7 _ rfl;simp only [ZG] at r0;dsimp only at r0 r1 r2 r3 r4 r5 r6 r7;unfold At at r7;dsimp only at r7;have wk:((k:Int)).toNat=k:=zj;go_enter func45,ntmps45;go_wp2_with fail;refine iZ.mono ?_;rintro e w1 ⟨rfl,rfl⟩;go_wp2_with fail;refine fO.mono ?_;rintro e w2 (⟨h30,rfl,HB⟩ | ⟨h30,rfl,HB⟩)
  ·rw [mL (show (8:Nat)≠0 by omega)];go_wp2;go_ret;exact ⟨_,N,rfl,⟨⟨_,_,_,_,_,_,_,_,HM.o.1.later HB.o⟩,HB.o.mono HM.o.1.l9,hN,fun x hx=>hx⟩,.inr ⟨k,_,rfl,hx.o,.inr ⟨h30,(mL (show (8:Nat)≠0 by omega)).symm,rfl⟩⟩⟩
  go_wp2;go_ret;obtain ⟨fv',ow',hm',hb'⟩:=HB.o;refine ⟨_,_,rfl,⟨⟨_,_,_,_,_,_,_,_,hm'⟩,hb',by rw [uS];simp;omega,fun x bD=> ?_⟩,.inr ⟨k,_,rfl,hx.o,.inl ⟨h30,rfl,rfl⟩⟩⟩
  rcases uU.1 bD with q | q
  ·exact q
  rw [Zc.1 q];exact uR hx.o
 rw [decide_eq_false ar] at iZ;have HQ:Aside (¬(0<=p8/\p8<(N.length:Int))):=ar;go_enter func45,ntmps45;go_wp2_with fail;refine iZ.mono ?_;rintro e w1 ⟨rfl,rfl⟩;go_wp2;go_ret;exact ⟨_,N,rfl,⟨⟨_,_,_,_,_,_,_,_,HM.o.1⟩,uO _ _,hN,fun x hx=>hx⟩,.inl ⟨HQ.o,(mL (show (6:Nat)≠0 by omega)).symm,rfl⟩⟩
def Lo(n m:Nat)(x y:Int):Nat:=if (0<=x/\x<(n:Int))/\(0<=y/\y<(n:Int))/\x≠y then (if m<30 then 0 else 8) else 2
def zcZ(gd:Nat->Option Obj)(B n bm:Nat)(ad:qF)(K:qH)(st:qD)(N:qJ)(x y:Int)(w:qW)(e:Ending)(w':qW):Prop:=∃(v:Value) (N':qJ),e= .returned v/\Aside (p9 gd B n bm K st N' w'/\Below B w w'/\((v= .nilIface/\N.length<30/\∃a b:Nat,a<n/\b<n/\a≠b/\x=(a:Int)/\y=(b:Int)/\N'=N++ [DL a b (oW (K a))])\/(N'=N/\¬((0<=x/\x<(n:Int))/\(0<=y/\y<(n:Int))/\x≠y/\N.length<30))))/\Aside (v=eV ad (Lo n N.length x y))
theorem St{gd}{B}{ad}{n bm}{K}{st}{N}(w)(x y)(h:p9 gd B n bm K st N w)(hE:E7 B ad w)(hK:∀r,r<n->(lY (K r)).length<=1000)(hx:(-9223372036854775808<=x/\x<=9223372036854775807))(hy:(-9223372036854775808<=y/\y<=9223372036854775807)):
  qC 39 #[qP bm,qI x,qI y] w (zcZ gd B n bm ad K st N x y w):=by
 obtain ⟨ow,pv,fv,bp,br,d,dv,c,hm⟩:=h;have hp:=sH w x hm hE hx
 have HM:Aside (n9 gd B w ow n bm pv fv bp br d dv c K st N/\E7 B ad w):=⟨hm,hE⟩
 go_enter func39,ntmps39;go_wp2_with fail;refine hp.mono ?_;rintro e w1 (⟨q,rfl,HB⟩ | ⟨r,hr,rfl,rfl,rfl⟩)
 ·have HQ:Aside (¬(0<=x/\x<(n:Int))):=q;rw [mL (show (2:Nat)≠0 by omega)];go_wp2;go_ret;exact ⟨_,N,rfl,⟨⟨_,_,_,_,_,_,_,_,HM.o.1.later HB.o⟩,HB.o.mono HM.o.1.l9,.inr ⟨rfl,fun q=>HQ.o q.1⟩⟩,by unfold Lo;rw [if_neg (fun q=>HQ.o q.1),mL (show (2:Nat)≠0 by omega)];rfl⟩
 have gm:=sH w1 y HM.o.1 HM.o.2 hy;go_wp2_with fail;refine gm.mono ?_;rintro e w2 (⟨q,rfl,HB⟩ | ⟨s,hs,rfl,rfl,rfl⟩)
 ·have HQ:Aside (¬(0<=y/\y<(n:Int))):=q;rw [mL (show (2:Nat)≠0 by omega)];go_wp2;go_ret;exact ⟨_,N,rfl,⟨⟨_,_,_,_,_,_,_,_,HM.o.1.later HB.o⟩,HB.o.mono HM.o.1.l9,.inr ⟨rfl,fun q=>HQ.o q.2.1⟩⟩,by unfold Lo;rw [if_neg (fun q=>HQ.o q.2.1),mL (show (2:Nat)≠0 by omega)];rfl⟩
 by_cases hrs:r=s
 ·subst hrs;have dq:((r:Int)==(r:Int))=true:=zq;have eb:=HM.o.2.t.G6.Q1.c1;go_wp2;go_ret;exact ⟨_,N,rfl,⟨⟨_,_,_,_,_,_,_,_,HM.o.1⟩,uO _ _,.inr ⟨rfl,fun q=>q.2.2.1 rfl⟩⟩,by unfold Lo;rw [if_neg (fun q=>q.2.2 rfl),mL (show (2:Nat)≠0 by omega)];rfl⟩
 have dq:((r:Int)==(s:Int))=false:=xL;have p0:=(HM.o.1.G0 r hr).1.c0;have lC:=tQ w2 (c r) (br r) (r:Int) (K r) (HM.o.1.G4 r hr).1.G4 (hK r hr);have HRS:Aside (r≠s):=hrs;go_wp2_with fail;refine lC.mono ?_;rintro e w3 ⟨rfl,hb3⟩;have fO:=Er w3 (DL r s (oW (K r))) (HM.o.1.later hb3) (HM.o.2.later hb3) ⟨hr,hs,.inl ⟨rfl,rfl⟩,fun g hg=>xC⟩;unfold Ws At DL oW at fO;dsimp only [List.length_nil] at fO;have fb:Aside (qL w2 w3):=hb3;go_wp2_with fail;refine fO.mono ?_;rintro e w4 (⟨h30,rfl,HB⟩ | ⟨h30,rfl,HB⟩)
 ·rw [mL (show (8:Nat)≠0 by omega)];go_wp2;go_ret;have hb4:=zi fb.o HB.o;exact ⟨_,N,rfl,⟨⟨_,_,_,_,_,_,_,_,HM.o.1.later hb4⟩,hb4.mono HM.o.1.l9,.inr ⟨rfl,fun q=>zj⟩⟩,by unfold Lo;rw [if_pos ⟨⟨zj,zj⟩,⟨zj,zj⟩,fun q=>HRS.o zj⟩,if_neg zj,mL (show (8:Nat)≠0 by omega)];rfl⟩
 go_wp2;go_ret;obtain ⟨fv',ow',hm',hb'⟩:=HB.o;exact ⟨_,_,rfl,⟨⟨_,_,_,_,_,_,_,_,hm'⟩,(fb.o.mono HM.o.1.l9).trans hb',.inl ⟨rfl,h30,r,s,hr,hs,HRS.o,rfl,rfl,rfl⟩⟩,by unfold Lo;rw [if_pos ⟨⟨zj,zj⟩,⟨zj,zj⟩,fun q=>HRS.o zj⟩,if_pos h30];rfl⟩
end
section
open RowKit Lib Go.Sort Maps
open scoped Classical
def aae(ad:qF)(w:qW)(Q:OpX->Nat->Prop)(e:Ending)(w':qW):Prop:=∃(y:OpX) (cd:Nat),e=qT #[mH y,eV ad cd]/\Aside (qL w w'/\Q y cd)
def abo(ok:Bool)(cyc:Prop)(x:OpX)(a:OpX×Nat):Prop:=(ok=false/\a=(lQ,6))\/(ok=true/\pZ x≠0/\a=(lQ,pZ x))\/(ok=true/\pZ x=0/\cyc/\a=(lQ,10))\/(ok=true/\pZ x=0/\¬cyc/\a=(x,0))
theorem abo.one{ok}{cyc}{x}{a a'}(h:abo ok cyc x a)(h':abo ok cyc x a'):a=a':=by
 rcases h with ⟨h1,rfl⟩ | ⟨h1,h2,rfl⟩ | ⟨h1,h2,h3,rfl⟩ | ⟨h1,h2,h3,rfl⟩<;>rcases h' with ⟨k1,rfl⟩ | ⟨k1,k2,rfl⟩ | ⟨k1,k2,k3,rfl⟩ | ⟨k1,k2,k3,rfl⟩
 all_goals simp_all
def chO(v:qY):UInt8:=v.data.toList.headD 0
def Q9(A:qX)(nd n:Int)(a:Int×Bool):Prop:=(¬m9 A nd->a=(0,false))/\(m9 A nd->∃L,u9 A nd L/\a=atL n L)
def aa5(A:qX)(T:Int)(i n:Nat)(x:OpX)(a:OpX×Nat):Prop:=
 (kdO x=109/\mU x=0/\a=Bu (SJ A (mT x)) (nR T i n 109 0 (mT x) x.2.2.2.2.2.2.1 ⟨#[]⟩))\/
 (kdO x=109/\mU x≠0/\∃ms,ms.Perm (pu A)/\ml ms/\abo (re A (mU x) &&SJ A (mT x)) (mT x=mU x\/Ins (mX ms) (mT x) (mU x)) (nR T i n 109 (mU x) (mT x) x.2.2.2.2.2.2.1 ⟨#[]⟩) a)\/
 (kdO x=105/\∃b:Int×Bool,N9 A (mU x) (mT x) b/\a=Bu b.2 (nR T i n 105 (mU x) b.1 ⟨#[]⟩ ⟨#[chO x.2.2.2.2.2.2.2]⟩))\/
 (kdO x=100/\∃b:Int×Bool,Q9 A (mU x) (mT x) b/\a=Bu b.2 (nR T i n 100 (mU x) b.1 ⟨#[]⟩ ⟨#[]⟩))\/
 (kdO x≠109/\kdO x≠105/\kdO x≠100/\a=Bu (re A (mU x)) (nR T i n 115 (mU x) 0 x.2.2.2.2.2.2.1 x.2.2.2.2.2.2.2))
theorem N9.G8{A S}{nd n}{a}(w:N9 A nd n a)(h:A.Perm S):N9 S nd n a:=by
 have hk:=tD h nd
 rcases w with ⟨q1,q2,q3⟩ | ⟨q1,q2,q3⟩
 ·exact .inl ⟨q1,q2,q3.trans hk⟩
 refine .inr ⟨q1,fun k=>q2 (fun q=>k (hk.1 q)),fun k=> ?_⟩;obtain ⟨L,hL,e⟩:=q3 (hk.2 k);exact ⟨L,hL.G8 h,e⟩
theorem Q9.G8{A S}{nd n}{a}(w:Q9 A nd n a)(h:A.Perm S):Q9 S nd n a:=by
 have hk:=tD h nd;refine ⟨fun k=>w.1 (fun q=>k (hk.1 q)),fun k=> ?_⟩;obtain ⟨L,hL,e⟩:=w.2 (hk.2 k);exact ⟨L,hL.G8 h,e⟩
theorem N9.one{A}{nd n}{a b}(h:N9 A nd n a)(k:N9 A nd n b):a=b:=by
 rcases h with ⟨q1,q2,q3⟩ | ⟨q1,q2,q3⟩<;>rcases k with ⟨r1,r2,r3⟩ | ⟨r1,r2,r3⟩
 ·grind
 ·exact absurd q1 r1
 ·exact absurd r1 q1
 by_cases hk:m9 A nd
 ·obtain ⟨L,hL,e⟩:=q3 hk;obtain ⟨M,hM,e'⟩:=r3 hk;rw [e,e',hL.q hM]
 rw [q2 hk,r2 hk]
theorem Q9.one{A}{nd n}{a b}(h:Q9 A nd n a)(k:Q9 A nd n b):a=b:=by
 by_cases hk:m9 A nd
 ·obtain ⟨L,hL,e⟩:=h.2 hk;obtain ⟨M,hM,e'⟩:=k.2 hk;rw [e,e',hL.q hM]
 rw [h.1 hk,k.1 hk]
theorem CO{ms ms'}(h:ml ms)(h':ml ms')(e:ms.Perm ms'):ms=ms':=by
 grind [ml,List.Perm.eq_of_pairwise,tj,ES]
theorem aa5.one{A}{T}{i n}{x}{a a'}(h:aa5 A T i n x a)(k:aa5 A T i n x a'):a=a':=by
 rcases h with ⟨q1,q2,q3⟩ | ⟨q1,q2,ms,q3,q4,q5⟩ | ⟨q1,b,q2,q3⟩ | ⟨q1,b,q2,q3⟩ | ⟨q1,q2,q3,q4⟩<;>rcases k with ⟨r1,r2,r3⟩ | ⟨r1,r2,ns,r3,r4,r5⟩ | ⟨r1,c,r2,r3⟩ | ⟨r1,c,r2,r3⟩ | ⟨r1,r2,r3,r4⟩
 all_goals first
  | exact q3.trans r3.symm
  | exact absurd q2 r2
  | exact absurd r2 q2
  | (have e:=CO q4 r4 (q3.trans r3.symm);subst e;exact q5.one r5)
  | (have e:=q2.one r2;simp_all)
  | exact q4.trans r4.symm
  | exact absurd q1 r1
  | exact absurd r1 q1
  | (exfalso;omega)
theorem Bp{ad}{w w'}{x}{ok}{okB}{e}(h:CJ ad w ok x e w')(hb:okB=true↔ok):aae ad w (fun y cd=>(y,cd)=Bu okB x) e w':=by
 rcases h with ⟨h1,h2,h3⟩ | ⟨h1,h2,h3⟩
 ·have e1:=hb.2 h1;subst e1;refine ⟨_,_,h2,h3,?_⟩;unfold Bu
  grind
 have e1:okB=false:=by
  cases okB with
  | false=>rfl
  | true=>simp_all
 subst e1;exact ⟨_,_,h2,h3,rfl⟩
theorem aae.imp{ad}{w w'}{P Q}{e}(h:aae ad w P e w')(k:∀y cd,P y cd->Q y cd):aae ad w Q e w':=by
 obtain ⟨y,cd,e1,e2⟩:=h;exact ⟨y,cd,e1,e2.o.1,k y cd e2.o.2⟩
theorem UF{v}(h:v.size=0):chO v=0:=by
 simp_all [chO]
theorem UB(v)(h:v.size≠0):∀w:World,(Instr.index 9 (.string v) (qI 0)).run prog w= .ok (.int .u8 ((chO v).toNat:Int)) w:=by
 intro w;have hv:0<v.size:=zj;have hv':(0:Int)<(v.size:Int):=zj
 have e:chO v=v[0]:=by
  unfold chO;have h2:0<v.data.size:=hv
  have h3:v.data.toList[0]? =some v[0]:=by
   rw [Qe,Yf h2];rfl
  cases hh:v.data.toList with
  | nil=>simp_all
  | cons a t=>simp_all
 rw [e];go_simp
section
variable {B:Nat} {ad:qF} (w:qW) (c:Nat→Nat) (br:Nat) (i:Nat) (R:Rws) (T:Int)
theorem zbW(into)(name)(h:C8 B w c br (i:Int) R)(hE:S9 B ad w)(hi:i<4)(hT:oA (lY R) T)(hm:T<=1073741824)(hn:(lY R).length<=250)(aG:name.size<=1000000)(h2: -9223372036854775808<=into)(h3:into<=9223372036854775807):
  qC 207 #[qP br,qI into,.string name] w (aae ad w (fun y cd=>(y,cd)=Bu (SJ (lY R) into) (nR T i (R i).length 109 0 into name ⟨#[]⟩))):=by
 obtain ⟨T',kv,bt,bx,bc,A,hm',hp,ht⟩:=h.G4.time;obtain rfl:T'=T:=nt ht hT;obtain ⟨ao,cap,hM⟩:=hm'.aaY
 exact (WX w c br T' i ao cap bt bx bc R into name hM.cell hM.D6 h.h hE.G6 hi ht.2.2 hm hn aG h2 h3).mono fun e w' q=>Bp q plcB_iff
theorem zcS(nd)(name value)(h:C8 B w c br (i:Int) R)(hE:S9 B ad w)(hi:i<4)(hT:oA (lY R) T)(hm:T<=1073741824)(hn:(lY R).length<=250)(aG:name.size<=1000000)(aN:value.size<=1000000)(h2: -9223372036854775808<=nd)(h3:nd<=9223372036854775807):
  qC 212 #[qP br,qI nd,.string name,.string value] w (aae ad w (fun y cd=>(y,cd)=Bu (re (lY R) nd) (nR T i (R i).length 115 nd 0 name value))):=by
 obtain ⟨T',kv,bt,bx,bc,A,hm',hp,ht⟩:=h.G4.time;obtain rfl:T'=T:=nt ht hT;obtain ⟨ao,cap,hM⟩:=hm'.aaY
 exact (UT w c br T' i ao cap bt bx bc R nd name value hM.cell hM.D6 h.h hE.G6 hi ht.2.2 hm hn aG aN h2 h3).mono fun e w' q=>Bp q knownB_iff
theorem zaQ(nd n)(h:C8 B w c br (i:Int) R)(hE:S9 B ad w)(hi:i<4)(hT:oA (lY R) T)(hm:T<=1073741824)(hn:(lY R).length<=250)(h2: -9223372036854775808<=nd)(h3:nd<=9223372036854775807)(h4: -9223372036854775808<=n)(h5:n<=9223372036854775807):
  qC 211 #[qP br,qI nd,qI n] w (aae ad w (fun y cd=>∃b:Int×Bool,Q9 (lY R) nd n b/\(y,cd)=Bu b.2 (nR T i (R i).length 100 nd b.1 ⟨#[]⟩ ⟨#[]⟩))):=by
 obtain ⟨T',kv,bt,bx,bc,A,hm',hp,ht⟩:=h.G4.time;obtain rfl:T'=T:=nt ht hT;obtain ⟨ao,cap,hM⟩:=hm'.aaY
 refine (RM w c br T' i ao cap bt bx bc R A nd n hM.cell hM.P9 hp hE.G6 hi ht.2.2 hm hn h2 h3 h4 h5).mono fun e w' q=> ?_
 obtain ⟨a,⟨a1,a2⟩,q⟩:=q;exact (Bp (okB:=a.2) q Iff.rfl).imp (fun y cd hy=>⟨a,Q9.G8 ⟨a1,a2⟩ hp,hy⟩)
theorem XD(nd n)(ch)(h:C8 B w c br (i:Int) R)(hE:S9 B ad w)(hi:i<4)(hT:oA (lY R) T)(hm:T<=1073741824)(hn:(lY R).length<=250)(h2: -9223372036854775808<=nd)(h3:nd<=9223372036854775807)(h4: -9223372036854775808<=n)(h5:n<=9223372036854775807):
  qC 209 #[qP br,qI nd,qI n,.int .u8 (ch.toNat:Int)] w (aae ad w (fun y cd=>∃b:Int×Bool,N9 (lY R) nd n b/\(y,cd)=Bu b.2 (nR T i (R i).length 105 nd b.1 ⟨#[]⟩ ⟨#[ch]⟩))):=by
 obtain ⟨T',kv,bt,bx,bc,A,hm',hp,ht⟩:=h.G4.time;obtain rfl:T'=T:=nt ht hT;obtain ⟨ao,cap,hM⟩:=hm'.aaY
 refine (PT w c br T' i ao cap bt bx bc R A nd n ch hM.cell hM.D6 hM.P9 hp h.h hE.G6 hi ht.2.2 hm hn h2 h3 h4 h5).mono fun e w' q=> ?_
 obtain ⟨a,hw,q⟩:=q;exact (Bp (okB:=a.2) q Iff.rfl).imp (fun y cd hy=>⟨a,hw.G8 hp,hy⟩)
theorem zcc(nd into)(name)(h:C8 B w c br (i:Int) R)(hE:S9 B ad w)(hcy:Aside (Cyc ad))(hi:i<4)(hT:oA (lY R) T)(hm:T<=1073741824)(hn:(lY R).length<=250)(aG:name.size<=1000000)(h2: -9223372036854775808<=nd)(h3:nd<=9223372036854775807)(h4: -9223372036854775808<=into)(h5:into<=9223372036854775807):
  qC 208 #[qP br,qI nd,qI into,.string name] w (aae ad w (fun y cd=>∃ms,ms.Perm (pu (lY R))/\ml ms/\abo (re (lY R) nd &&SJ (lY R) into) (into=nd\/Ins (mX ms) into nd) (nR T i (R i).length 109 nd into name ⟨#[]⟩) (y,cd))):=by
 obtain ⟨T',kv,bt,bx,bc,A,hm',hp,ht⟩:=h.G4.time;obtain rfl:T'=T:=nt ht hT;obtain ⟨ao,cap,hM⟩:=hm'.aaY;obtain ⟨bm,tv,ms,fY,js,-⟩:=hM.Z8;obtain ⟨nm,dr,jN⟩:=fY.map;have t0:=fY.cell.c0
 refine (Pz w c br T' i ao cap bt bx bc bm nm (mX ms) R nd into name hM.cell hM.D6 t0 jN fY.aaa h.h hE.G6 hcy hi ht.2.2 hm hn aG h2 h3 h4 h5).mono fun e w' q=> ?_
 obtain ⟨hb,q⟩:=q
 have dC:(re (lY R) nd &&SJ (lY R) into)=true↔m9 (lY R) nd/\(into=0\/into=1\/m9 (lY R) into):=by
  rw [Yk,knownB_iff,plcB_iff]
 have hno:¬(m9 (lY R) nd/\(into=0\/into=1\/m9 (lY R) into))->(re (lY R) nd &&SJ (lY R) into)=false:=fun k=>by
  simp_all
 have dB:=js.trans (hp.filterMap _)
 rcases q with ⟨ok,q⟩ | ⟨ok,he,q⟩ | ⟨ok,he,cy,q⟩ | ⟨ok,he,cy,q⟩
 ·exact ⟨lQ,6,q,hb,ms,dB,fY.o8,.inl ⟨hno ok,rfl⟩⟩
 ·exact ⟨lQ,_,q,hb,ms,dB,fY.o8,.inr (.inl ⟨dC.2 ok,he,rfl⟩)⟩
 ·exact ⟨lQ,10,q,hb,ms,dB,fY.o8,.inr (.inr (.inl ⟨dC.2 ok,he,cy,rfl⟩))⟩
 exact ⟨_,0,q,hb,ms,dB,fY.o8,.inr (.inr (.inr ⟨dC.2 ok,he,cy,rfl⟩))⟩

end