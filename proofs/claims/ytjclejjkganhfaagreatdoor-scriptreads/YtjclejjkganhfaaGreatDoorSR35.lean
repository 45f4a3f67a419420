import Derived.Test.YtjclejjkganhfaaGreatDoorSR31
set_option linter.unusedSimpArgs false
set_option linter.unusedVariables false
set_option maxRecDepth 100000
set_option maxHeartbeats 64000000
namespace Go.Proofs.YtjclejjkganhfaaGreatDoor
open Go.Proofs.Tryz
section
open RowKit Lib Go.Sort Maps
open scoped Classical
structure Nr (b:Nat) (w w':qW) (p r0 dd:Nat) (c0:Nat->Nat) (v:Value):Prop where
 cell:t8 w' p r0 dd
 GP:B9 w.heap.size w' c0 r0 (b:Int) (fun _=>[])
 B6:t6 w' dd v ([],false,false,0)
 m8:qL w w'
 plo:w.heap.size<=p
 pc:c0 p=0
 dlo:∀k,DI dd v k->w.heap.size<=k/\c0 k=0/\k≠p
theorem Ha(w)(b:Nat)(hb:b<4):
  qC 19 #[qN b] w fun e w'=>∃p r0 dd c0 v,e=qT #[qP p,.nilIface]/\Aside (Nr b w w' p r0 dd c0 v):=by
 have hnew:=NY w (b:Int) zj zj;go_enter func19,ntmps19;go_wp2_with fail;refine hnew.mono ?_;rintro e w1 ⟨c0,r0,rfl,hR,hb1⟩
 have H1:Aside (B9 w.heap.size w1 c0 r0 (b:Int) (fun _=>[])/\qL w w1):=⟨hR,hb1⟩
 have fC:=IY ⟨#[]⟩ w1 (by show (0:Nat)<=65536;omega);go_wp2_with fail;refine fC.mono ?_;rintro e w2 ⟨dd,v,rfl,H2⟩;go_wp2;go_ret2;have hb3:qL w2 (w2.alloc (.cells #[qP r0,qP dd] 81)):=zh w2 _;have hd:=H2.o.1;have aI:=H1.o.2.size;have aJ:=H2.o.2.1.size;refine ⟨w2.heap.size,r0,dd,c0,v,rfl,heap_alloc_new w2 _,(H1.o.1.later H2.o.2.1).later hb3,hd.later hb3,(H1.o.2.trans (H2.o.2.1.mono aI)).trans (hb3.mono zj),zj,H1.o.1.high _ zj,fun k hk=> ?_⟩;have h1:=H2.o.2.2 k hk;have h2:=hd.aag hk;exact ⟨zj,H1.o.1.high k h1,zj⟩
theorem n9.grow{gd}{B}{w w1 w2}{ow}{n bm}{pv fv v2}{bp br d}{dv}{c}{K}{st}{N}{p r0 dd}{c0}{v}{o}(h:n9 gd B w ow n bm pv fv bp br d dv c K st N)(hn:n<4)(hp:Nr n w w1 p r0 dd c0 v)
  (hown:w2.ownsRow B 57 1 v2 (n+1) (Ab bp n++ [qP p])) (ag:(w1.alloc o).grownBy w2 pv.ownBlock) (av:(∃g cap,pv=qG g n cap/\v2=qG g (n+1) cap)\/(v2.ownBlock=some (w1.alloc o).heap.size/\(w1.alloc o).grownBy w2 none)) (hN:N= []):
  ∃ow',n9 gd B (w2.setCell (qB bm) v2) ow' (n+1) bm v2 fv (lR bp n p) (lR br n r0) (lR d n dd) (lR dv n v) (lR c n c0) (lR K n (fun _=>[])) (lR st n ([],false,false,0)) N/\Below B w (w2.setCell (qB bm) v2):=by
 subst hN;have h1:=h.later hp.m8;have s1:=hp.m8.size
 have s2:w1.heap.size<=w2.heap.size:=by have:=ag.size;rw [Zt] at this;omega
 have gC:m7 (fun k=>pv.ownBlock=some k) w1 w2:=((m7.refl _ w1).alloc o).trans ((lS ag).mono (fun k _ hk=>by rw [<-hk]));obtain ⟨W,hW⟩:=za (w2.setCell (qB bm) v2)
 have hsW:m7 (fun k=>k=bm) w2 W:=by rw [hW];exact lZ bm [v2] 0 w2
 have hsz:W.heap.size=w2.heap.size:=by rw [hW];simp
 have hk:m7 (fun k=>pv.ownBlock=some k\/k=bm) w1 W:=(gC.mono (fun k _ e=>.inl e)).then hsW (fun k _ e=>.inr e)
 have eF:∀g,pv.ownBlock=some g->g<w.heap.size:=fun g hg=>h.H (by rw [h.op g hg];omega)
 have hbm:=h.H (by rw [h.om];omega)
 have same:∀ {k:Nat},k<w1.heap.size->(k<w.heap.size->ow k≠1/\ow k≠2)->W.heap[k]? =w1.heap[k]? :=fun {k} hkl hne=>hk.block k hkl (fun q=>by
  rcases q with q | q
  ·exact (hne (eF k q)).2 (h.op k q)
  ·exact (hne (by rw [q];exact hbm)).1 (by rw [q];exact h.om))
 have hf:∃f:Nat->Nat,(∀k,k<w.heap.size->f k=ow k)/\(∀k,c0 k≠0->f k=10+n)/\(∀k,DI dd v k->f k=20+n)/\f p=30+n/\(∀g,v2.ownBlock=some g->w.heap.size<=g->f g=2)/\(∀k,W.heap.size<=k->f k=0):=by
  refine ⟨fun k=>if k<w.heap.size then ow k else if c0 k≠0 then 10+n else if DI dd v k then 20+n else if k=p then 30+n else if k<W.heap.size then 2 else 0,fun k hk=>if_pos hk,fun k hk=> ?_,fun k hk=> ?_,?_,fun g hg bY=> ?_,fun k hkl=> ?_⟩
  ·have:=hp.GP.low k hk
   grind
  ·have:=hp.dlo k hk
   grind
  ·have:=hp.plo
   show (if _ then _ else _)=_
   rw [if_neg zj,if_neg (fun q=>q hp.pc),if_neg (fun q=>(hp.dlo p q).2.2 rfl),if_pos rfl]
  ·have hgn:w1.heap.size<=g:=by
    rcases av with ⟨g',cp,e1,e2⟩ | ⟨e1,_⟩
    ·have:=eF g xu;omega
    grind [Zt]
   have:=(hown.lt g hg).2
   show (if _ then _ else _)=_
   rw [if_neg zj,if_neg (fun q=>q (hp.GP.high g hgn)),if_neg (fun q=>by have:=hp.B6.aag q;omega),if_neg (fun q=>by have:=hp.cell.lt;omega),if_pos zj]
  show (if _ then _ else _)=_
  rw [if_neg zj,if_neg (fun q=>q (hp.GP.high k zj)),if_neg (fun q=>by have:=hp.B6.aag q;omega),if_neg (fun q=>by have:=hp.cell.lt;omega),if_neg zj]
 obtain ⟨f,f0,f1,f2,f3,f4,f5⟩:=hf
 have y9:∀ {k i:Nat},ow k=i->i≠0->f k=i:=fun {k i} e hi=>(f0 k (h.H yJ)).trans e
 have in1:∀ {k i:Nat},ow k=i->i≠0->k<w1.heap.size:=fun {k i} e hi=>uT (h.H yJ) s1
 have off:∀ {k i:Nat},ow k=i->i≠1->i≠2->k<w.heap.size->ow k≠1/\ow k≠2:=fun {k i} e a1 a2 _=>⟨zj,zj⟩
 rw [<-hW];refine ⟨f,⟨zj,?_,y9 h.om zj,?_,fun g hg=> ?_,?_,fun g hg=>y9 (h.of g hg) zj,fun x hx=>ya,fun r hr=> ?_,fun r hr=> ?_,fun r hr=> ?_,fun k hq=> ?_,f5,by have:=h.l9;omega,fun k o e=>⟨y9 (h.guard k o e).1 zj,(same (in1 (h.guard k o e).1 zj) (off (h.guard k o e).1 zj zj)).trans (h1.guard k o e).2⟩⟩,?_⟩
 ·rw [hW];have hm1:=h1.C9;have bR:G0 w2 bm pv fv:=(gC.block bm (uT hbm s1) (fun q=>by have:=h.op bm q;rw [h.om] at this;omega)).trans hm1;exact bR.aa1 v2
 ·rw [Ln,lT,IN (bp:=lR bp n p) (bp':=bp) (fun r hr=>lP _ _ zj)];refine mD hown (fun g hg=>hsW.block g (hown.lt g hg).2 (fun q=> ?_));have q':=q
  rcases av with ⟨g',cp,e1,e2⟩ | ⟨e1,_⟩
  ·have:=h.op g xu;rw [q',h.om] at this;omega
  grind [Zt]
 ·rcases av with ⟨g',cp,e1,e2⟩ | ⟨e1,_⟩
  ·have:=h.op g xu;exact y9 this zj
  grind [Zt]
 ·exact mD h1.L5 (fun g hg=>same (in1 (h.of g hg) zj) (off (h.of g hg) zj zj))
 ·by_cases e:r=n
  ·subst e;simp only [lT];exact ⟨hp.cell.same (same hp.cell.lt (fun q=>absurd q (by have:=hp.plo;omega))),f3⟩
  simp only [lP _ _ e];obtain ⟨q1,q2⟩:=h1.GA r zj;exact ⟨q1.same (same (in1 q2 zj) (off q2 zj zj)),y9 q2 zj⟩
 ·by_cases e:r=n
  ·subst e;simp only [lT];exact ⟨(hp.GP.abY h.l9).F9 zj (fun k hkl q=>same hkl (fun p=>absurd p (by have:=hp.GP.low k q;omega))),f1⟩
  simp only [lP _ _ e];obtain ⟨q1,q2⟩:=h1.GP r zj;exact ⟨q1.F9 zj (fun k hkl q=>same hkl (off (q2 k q) zj zj)),fun k q=>y9 (q2 k q) zj⟩
 ·by_cases e:r=n
  ·subst e;simp only [lT];exact ⟨hp.B6.same (fun k q=>same (hp.B6.aag q) (fun p=>absurd p (by have:=(hp.dlo k q).1;omega))),f2⟩
  simp only [lP _ _ e];obtain ⟨q1,q2⟩:=h1.B6 r zj;exact ⟨q1.same (fun k q=>same (in1 (q2 k q) zj) (off (q2 k q) zj zj)),fun k q=>y9 (q2 k q) zj⟩
 ·by_cases e:k<w.heap.size
  ·rw [f0 k e] at hq;exact h.low k hq
  have:=h.l9;omega
 exact (hp.m8.mono h.l9).trans (hk.m8 (uO h.l9 s1) (fun k q=>by
  rcases q with q | q
  ·exact h.low k (by rw [h.op k q];omega)
  ·rw [q];exact h.low bm (by rw [h.om];omega)))
theorem zcg:(prog.info? 57).map (fun i=>(i.zero,i.size,i.bytes))=some (some (.pointer none),1,8):=zk
theorem Iz{w:qW}{l9 n}{e}{k}{v}{xs}(h:w.ownsRow l9 e k v (n+1) xs):∃g cap,v=qG g (n+1) cap:=by
 rcases h.2 with ⟨_,q⟩ | ⟨g,cap,cur,q,_⟩
 ·omega
 simp_all
theorem UW{B}(w)(many:Nat)(h1:1<=many)(h4:many<=4)(hB:B<=w.heap.size):
  qC 13 #[qN many] w fun e w'=>∃bm,e=qT #[qP bm,.nilIface]/\Aside (∃K st,q8 (fun _=>none) B many bm K st [] w'/\qL w w'/\(∀r,r<many->K r=fun _=>[])/\(∀r,r<many->st r=([],false,false,0))/\w.heap.size<=bm):=by
 obtain ⟨i0,hi,aD,aw,aH⟩:=info_parts zcg;have d1:decide ((many:Int)<1)=false:=zm;have d2:qlt 4 many=false:=zm;have dr:decide (many<1)=false:=zm;have d2n:decide (4<many)=false:=zm;obtain ⟨S,hS⟩:=ze w.heap.size;obtain ⟨U,hU⟩:=ze (w.alloc (.cells #[qE,qE] 56));have ah:qL w U:=yB
 have HU:Aside (n9 (fun _=>none) S U (fun k=>if k=S then 1 else 0) 0 S qE qE (fun _=>0) (fun _=>0) (fun _=>0) (fun _=>qE) (fun _ _=>0) (fun _ _=>[]) (fun _=>([],false,false,0)) []/\qL w U):=by
  refine ⟨⟨zj,by rw [hU.o,hS.o];exact heap_alloc_new w _,if_pos rfl,Zi _ _ _ _,fun g hg=>xA,Zi _ _ _ _,fun g hg=>xA,fun x hx=>ya,fun r hr=>absurd hr zj,fun r hr=>absurd hr zj,fun r hr=>absurd hr zj,fun k hk=> ?_,fun k hk=> ?_,by have:=ah.size;rw [hS.o];exact this,fun k o e=>yN⟩,ah⟩
  ·by_cases e:k=S
   ·omega
   exact absurd (if_neg e) hk
  have hl:U.heap.size=S+1:=by rw [hU.o,hS.o];simp
  exact if_neg zj
 go_enter func13,ntmps13;go_upto_region 4 with fail;rw [<-hU.o,<-hS.o];go_wp2;go_loopg [18] many (fun kx s18 wr=>∃(k:Nat) (ow:Nat->Nat) (pv:Value) (bp br d:Nat->Nat) (dv:Nat->Value) (c:Nat->Nat->Nat) (K:qH) (st:qD),s18=qN k/\k<=many/\many - k<=kx/\Aside (n9 (fun _=>none) S wr ow k S pv qE bp br d dv c K st []/\Below S w wr/\(∀r,r<k->K r=fun _=>[])/\(∀r,r<k->st r=([],false,false,0))))
 case atStart=>exact ⟨0,_,_,_,_,_,_,_,_,_,rfl,uW _,uL _,HU.o.1,by rw [hS.o];exact HU.o.2,fun r hr=>absurd hr zj,fun r hr=>absurd hr zj⟩
 case round=>
  obtain ⟨k,ow,pv,bp,br,d,dv,c,K,st,rfl,hk,aY,A⟩:=hrel;by_cases hlt:k<many
  ·have d1:qlt k many=true:=by simp;omega
   have dr:decide (k<many)=true:=zm;have hnp:=Ha wr k zj;obtain ⟨u,hu⟩:=za wr;subst hu;go_wp2_with fail;refine hnp.mono ?_;rintro e w1 ⟨p,r0,dd,c0,v,rfl,HP⟩;have hm1:=A.o.1.later HP.o.m8
   obtain ⟨v2,w2,ae,hown,ag,av⟩:=pd (P:=prog) (w1.alloc (.cells #[qP p] 57)) S 53 53 57 i0 _ 1 8 underlying53 hi aD aw aH rfl zj pv k (Ab bp k) (hm1.K8.alloc _) (qB w1.heap.size) 1 1 zj [qP p] rfl
    (YH (cs:= #[qP p]) (t:=57) (fr:=(0,0)) (heap_alloc_new w1 _)) xg zB zj (by have:=hm1.l9;rw [Zt];omega)
   obtain ⟨ow',bR,hb2⟩:=A.o.1.grow zj HP.o hown ag av rfl;have cg:=hm1.C9;have m0:=cg.c0
   have ew:G0 w2 S pv qE:=by
    have gC:m7 (fun k=>pv.ownBlock=some k) w1 w2:=((m7.refl _ w1).alloc _).trans ((lS ag).mono (fun k _ hk=>by rw [<-hk]));exact (gC.block S cg.lt (fun q=>by have:=A.o.1.op S q;rw [A.o.1.om] at this;omega)).trans cg
   have n0:=ew.c0;have nf:=ew.fz 0;obtain ⟨g2,cp2,rfl⟩:=Iz hown
   have HN:Aside (n9 (fun _=>none) S (w2.setCell (qB S) (qG g2 (k+1) cp2)) ow' (k+1) S (qG g2 (k+1) cp2) qE (lR bp k p) (lR br k r0) (lR d k dd) (lR dv k v) (lR c k c0) (lR K k (fun _=>[])) (lR st k ([],false,false,0)) []/\Below S w (w2.setCell (qB S) (qG g2 (k+1) cp2))/\(∀r,r<k+1->lR K k (fun _=>[]) r=fun _=>[])/\(∀r,r<k+1->lR st k ([],false,false,0) r=([],false,false,0))):=⟨bR,A.o.2.1.trans hb2,fun r hr=>by
     by_cases e:r=k
     ·rw [e,lT]
     ·rw [lP _ _ e];exact A.o.2.2.1 r zj,fun r hr=>by
     by_cases e:r=k
     ·rw [e,lT]
     ·rw [lP _ _ e];exact A.o.2.2.2 r zj⟩
   have hpvs:=mC A.o.1.K8;obtain ⟨po,pc,rfl⟩:=hpvs;go_wp2_with (at_builtin;refine Lib.wpList_append_run _ rfl _ _ _ _ rfl _ _ rfl rfl _ _ ae ?_);go_roundg (many - (k+1))
   case measure=>omega
   case rel=>exact ⟨k+1,_,_,_,_,_,_,_,_,_,zN,zj,zj,HN.o⟩
  have d1:qlt k many=false:=zm;have dr:decide (k<many)=false:=zm;obtain rfl:k=many:=zj;have HA:Aside (n9 (fun _=>none) S wr ow k S pv qE bp br d dv c K st []/\Below S w wr/\(∀r,r<k->K r=fun _=>[])/\(∀r,r<k->st r=([],false,false,0))):=A.o;go_wp2;go_ret2;have hm:=HA.o.1;refine ⟨S,rfl,K,st,⟨ow,pv,qE,bp,br,d,dv,c,⟨hm.W9,hm.C9,hm.om,JF hm.K8 vD,hm.op,JF hm.L5 vD,hm.of,hm.D9,hm.GA,fun r hr=>⟨(hm.GP r hr).1.abY vD,(hm.GP r hr).2⟩,hm.B6,fun q hq=>by have:=hm.low q hq;rw [hS.o] at this;omega,hm.high,by have:=hm.l9;rw [hS.o] at this;omega,hm.guard⟩⟩,by have:=HA.o.2.1;rwa [hS.o] at this,HA.o.2.2.1,HA.o.2.2.2,xw⟩

end