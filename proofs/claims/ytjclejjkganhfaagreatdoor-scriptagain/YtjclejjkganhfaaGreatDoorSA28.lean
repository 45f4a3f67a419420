import Derived.Test.YtjclejjkganhfaaGreatDoorSA24
import Derived.Test.YtjclejjkganhfaaGreatDoorSA25
import Derived.ChangeMaps5
set_option linter.unusedSimpArgs false
set_option linter.unusedVariables false
set_option maxRecDepth 100000
set_option maxHeartbeats 64000000
namespace Go.Proofs.YtjclejjkganhfaaGreatDoor
open Go.Proofs.Tryz
section
open RowKit Lib Go.Sort Maps
open scoped Classical
theorem n9.acQ{gd gd'}{B}{w w'}{ow ow'}{n bm}{pv fv}{bp br d}{dv}{c}{K}{st}{N}
  (h:n9 gd B w ow n bm pv fv bp br d dv c K st N) (hk:m7 (fun k=>ow k=5) w w') (hs:∀k,ow k≠0->ow' k=ow k) (hn:∀k,ow' k≠0->ow k≠0\/(w.heap.size<=k/\k<w'.heap.size)) (hg:∀k o,gd' k=some o->ow' k=5/\w'.heap[k]? =some o):
  n9 gd' B w' ow' n bm pv fv bp br d dv c K st N:=by
 have same:∀ {k i:Nat},ow k=i->i≠0->i≠5->w'.heap[k]? =w.heap[k]? :=fun {k i} e hi h5=>hk.block k (h.F yI) (fun p=>h5 (by rw [<-e];exact p))
 have tw:∀ {k i:Nat},ow k=i->i≠0->ow' k=i:=fun {k i} e hi=>(hs k yI).trans e
 refine ⟨h.X7,(same h.om zj zj).trans h.D8,tw h.om zj,mE h.K9 (fun g hg=>same (h.op g hg) zj zj),fun g hg=>tw (h.op g hg) zj,mE h.L8 (fun g hg=>same (h.of g hg) zj zj),fun g hg=>tw (h.of g hg) zj,fun x hx=>⟨(h.B8 x hx).S8,(h.B8 x hx).to_,no (h.B8 x hx).ops (fun g hg=>same ((h.B8 x hx).L4 g hg) zj zj),fun g hg=>tw ((h.B8 x hx).L4 g hg) zj⟩,fun r hr=>⟨(h.G0 r hr).1.same (same (h.G0 r hr).2 zj zj),tw (h.G0 r hr).2 zj⟩,fun r hr=>⟨(h.G4 r hr).1.GC hk.size (fun k _ e=>same ((h.G4 r hr).2 k e) zj qK),fun k e=>tw ((h.G4 r hr).2 k e) zj⟩,fun r hr=>⟨(h.x8 r hr).1.same (fun k e=>same ((h.x8 r hr).2 k e) zj zj),fun k e=>tw ((h.x8 r hr).2 k e) zj⟩,fun k e=> ?_,fun k e=> ?_,uQ h.l9 hk.size,hg⟩
 ·rcases hn k e with q | ⟨q,_⟩
  ·exact h.low k q
  exact uQ h.l9 q
 by_cases q:ow' k=0
 ·exact q
 rcases hn k q with q' | ⟨_,q'⟩
 ·exact absurd (h.high k (uQ hk.size e)) q'
 omega
theorem Fx{w:qW}{l9 n k}{v}{e}{xs}(h:w.ownsRow l9 e k v n xs){g}(hg:v.ownBlock=some g):∃o,w.heap[g]? =some o:=by
 rcases h.2 with ⟨h1,_⟩ | ⟨g',cap,cur,rfl,_,h3,_⟩
 ·rw [h1] at hg;cases hg
 cases hg;exact ⟨_,h3⟩
theorem n9.act{gd}{B}{w}{ow}{n bm}{pv fv}{bp br d}{dv}{c}{K}{st}{N}(h:n9 gd B w ow n bm pv fv bp br d dv c K st N)(P:Nat->Prop)(hP:∀k,P k->ow k=0/\B<=k/\k<w.heap.size):
  n9 (fun k=>if P k then w.heap[k]? else gd k) B w (fun k=>if P k then 5 else ow k) n bm pv fv bp br d dv c K st N:=by
 have B9:∀ {k i:Nat},ow k=i->i≠0->(if P k then 5 else ow k)=i:=fun {k i} e hi=>by
  grind
 refine ⟨h.X7,h.D8,B9 h.om zj,h.K9,fun g hg=>B9 (h.op g hg) zj,h.L8,fun g hg=>B9 (h.of g hg) zj,fun x hx=>⟨(h.B8 x hx).S8,(h.B8 x hx).to_,(h.B8 x hx).ops,fun g hg=>B9 ((h.B8 x hx).L4 g hg) zj⟩,fun r hr=>⟨(h.G0 r hr).1,B9 (h.G0 r hr).2 zj⟩,fun r hr=>⟨(h.G4 r hr).1,fun k e=>B9 ((h.G4 r hr).2 k e) zj⟩,fun r hr=>⟨(h.x8 r hr).1,fun k e=>B9 ((h.x8 r hr).2 k e) zj⟩,fun k e=> ?_,fun k e=> ?_,h.l9,fun k o e=> ?_⟩
 ·by_cases q:P k
  ·exact (hP k q).2.1
  rw [if_neg q] at e;exact h.low k e
 ·rw [if_neg (fun q=>zN)];exact h.high k e
 by_cases q:P k
 ·simp_all
 rw [if_neg q] at e |-
 exact h.guard k o e
theorem p9.X2{gd gd'}{B n bm}{K}{st}{N}{w}(h:p9 gd B n bm K st N w)(hg:∀k o,gd' k=some o->gd k=some o):p9 gd' B n bm K st N w:=by
 obtain ⟨ow,pv,fv,bp,br,d,dv,c,hm⟩:=h;exact ⟨ow,pv,fv,bp,br,d,dv,c,hm.X7,hm.D8,hm.om,hm.K9,hm.op,hm.L8,hm.of,hm.B8,hm.G0,hm.G4,hm.x8,hm.low,hm.high,hm.l9,fun k o e=>hm.guard k o (hg k o e)⟩
def gdQ(gd:Nat->Option Obj)(v:Value)(w:qW):Nat->Option Obj:=fun k=>if v.ownBlock=some k then w.heap[k]? else gd k
def R6(gd:Nat->Option Obj)(B n bm:Nat)(K:qH)(st:qD)(N:qJ)(T:TypeId)(v:Value)(cs:List Value)(w:qW):Prop:=
 p9 (gdQ gd v w) B n bm K st N w/\w.ownsRow B T 1 v cs.length cs/\∀k,v.ownBlock=some k->gd k=none
theorem R6.bare{gd}{B n bm}{K}{st}{N}{w}(T)(h:p9 gd B n bm K st N w):R6 gd B n bm K st N T qE [] w:=
 ⟨h.X2 (fun k o e=>by unfold gdQ at e;rwa [if_neg (fun q=>xQ)] at e),Zk _ _ _ _,fun k q=>xQ⟩
theorem R6.D8{gd}{B n bm}{K}{st}{N}{T}{v}{cs}{w}(h:R6 gd B n bm K st N T v cs w):p9 gd B n bm K st N w:=
 h.1.X2 (fun k o e=>by
  unfold gdQ
  rw [if_neg (fun q=>by rw [h.2.2 k q] at e;cases e)]
  exact e)
theorem R6.on{gd}{B n bm}{K K'}{st st'}{N N'}{T}{v}{cs}{w w'}(h:R6 gd B n bm K st N T v cs w)(h':p9 (gdQ gd v w) B n bm K' st' N' w'):R6 gd B n bm K' st' N' T v cs w':=by
 have e:∀g,v.ownBlock=some g->w'.heap[g]? =w.heap[g]? :=fun g hg=>by
  obtain ⟨o,ho⟩:=Fx h.2.1 hg;rw [ho];exact h'.held (by unfold gdQ;rw [if_pos hg];exact ho)
 refine ⟨h'.X2 (fun k o q=> ?_),mE h.2.1 e,h.2.2⟩
 simp_all [gdQ,if_pos,if_neg]
theorem R6.ac4{gd}{B n bm}{K}{st}{N}{T}{v v'}{cs cs'}{w w'}(h:R6 gd B n bm K st N T v cs w)(hk:m7 (fun k=>some k=v.ownBlock) w w')(ho:w'.ownsRow B T 1 v' cs'.length cs')(hv:∀g,v'.ownBlock=some g->v.ownBlock=some g\/w.heap.size<=g):R6 gd B n bm K st N T v' cs' w':=by
 obtain ⟨⟨ow,pv,fv,bp,br,d,dv,c,hm⟩,h3,h1⟩:=h
 have h5:∀g,v.ownBlock=some g->ow g=5:=fun g hg=>by
  obtain ⟨o,ho⟩:=Fx h3 hg;exact (hm.guard g o (by unfold gdQ;simp_all)).1
 have hgn:∀k,v'.ownBlock=some k->gd k=none:=fun k hk'=>by
  rcases hv k hk' with q | q
  ·exact h1 k q
  cases e:gd k with
  | none=>rfl
  | some o=>
   have:=(hm.guard k o (by unfold gdQ;grind)).1;have:=hm.high k q;omega
 refine ⟨⟨fun k=>if v'.ownBlock=some k then 5 else ow k,pv,fv,bp,br,d,dv,c,hm.acQ (hk.mono (fun k _ q=>h5 k (Eq.symm q))) (fun k e=> ?_) (fun k e=> ?_) (fun k o e=> ?_)⟩,ho,hgn⟩
 ·try dsimp only
  by_cases q:v'.ownBlock=some k
  ·rw [if_pos q]
   rcases hv k q with q' | q'
   ·exact (h5 k q').symm
   exact absurd (hm.high k q') e
  rw [if_neg q]
 ·try dsimp only at e
  by_cases q:v'.ownBlock=some k
  ·rcases hv k q with q' | q'
   ·left;rw [h5 k q'];omega
   right;obtain ⟨o,ho'⟩:=Fx ho q;exact ⟨q',(uN.1 ho').1⟩
  simp_all
 unfold gdQ at e
 try dsimp only at e |-
 by_cases q:v'.ownBlock=some k
 ·simp_all
 rw [if_neg q] at e |-
 have hnv:v.ownBlock≠some k\/v.ownBlock=some k:=by by_cases q':v.ownBlock=some k<;>simp [q']
 rcases hnv with q' | q'
 ·obtain ⟨e1,e2⟩:=hm.guard k o (by unfold gdQ;rw [if_neg q'];exact e);exact ⟨e1,(hk.block k (hm.F (by rw [e1];omega)) (fun q2=>q' (Eq.symm q2))).trans e2⟩
 simp_all
theorem Pm{A}{mm}(h:P8 (rj A) mm):mm.length<=A.length:=by
 have hn:(mm.map Aa).Nodup:=YE.2 (h.K7.imp (S:=fun a b:Mrk=>Aa a≠Aa b) (fun {a b} q e=>zN))
 have hs:∀k,k∈mm.map Aa->k∈(rQ A).map (·.1):=fun k hk=>by
  obtain ⟨m,hm,rfl⟩:=Zm.1 hk;obtain ⟨-,s,hs⟩:=(h.U7 m).1 hm;have hb:=AQ (rQ A) (Aa m);unfold rj at hs;rw [hs] at hb;have hmem:(Aa m,(m.2.2,s))∈rQ A:=hb.1
  grind
 have h1:=oS hn hs;rw [Zj,Zj] at h1;exact uQ h1 (YL _ _)
theorem Rj{A}{ts}(h:N8 A ts):ts.length<=A.length:=by
 have hn:(ts.map (·.1)).Nodup:=YE.2 (h.K7.imp (S:=fun a b:Int×qU=>a.1≠b.1) (fun {a b} q e=>zj))
 have hs:∀k,k∈ts.map (·.1)->k∈A.map mU:=fun k hk=>by
  obtain ⟨x,hx,_,e,_⟩:=(h.U7 k).1 hk;exact Zm.2 ⟨x,hx,e⟩
 have h1:=oS hn hs
 simp_all
theorem Pt{A}(hA:D5 A)(hl:A.length<=300){s}(h:G3 A s):s.length<=10000000:=by
 obtain ⟨ms,qs,ts,A',mm,h1,h2,h3,h4,h5,h6,rfl⟩:=h
 have hml:ms.length<=300:=by
  rw [h1.length_eq];exact uQ (YL _ _) hl
 obtain ⟨q2,hq2,hql⟩:=Af ms;obtain rfl:=h3.q hq2
 have hG:=rm fun m hm=>by
  obtain ⟨y,hy,hk,rfl⟩:=FN (h1.mem_iff.1 hm);have h2:=hA.ok y hy;obtain ⟨t,b,m,kd,l8,other,name,value⟩:=y;have hk:kd=109:=hk;subst hk;exact GR h2
 have ff:mm.length<=300:=by have:=Pm h6;have:=h5.length_eq;omega
 have iQ:ts.length<=300:=by have:=Rj h4;omega
 have hf:=Yi sf ts
 have hb:∀l∈Bd qs ts mm,l.length<=10000:=fun l eK=>by
  unfold Bd at eK
  rcases uU.1 eK with q | q
  ·rcases uU.1 q with q | q
   ·obtain ⟨p,hp,rfl⟩:=Zm.1 q;exact GF (hG.Y5 _ _ ((h3.U7 p).1 hp))
   obtain ⟨t,ht,rfl⟩:=Zm.1 q;have gX:=(Yo.1 ht).1;obtain ⟨L,hL,e⟩:=h4.C9 t gX;have k1:=wP L;have k2:=hL.y9;obtain ⟨x,hx,_,e2,_⟩:=(h4.U7 t.1).1 (Zm.2 ⟨t,gX,rfl⟩);have q:=mP (hA.ok x hx);have e3:x.2.2.2.2.1=t.1:=e2;have q2:=q.2.2.2.2.2.2.2.2.1;exact LR (by rw [e];omega) zj zj
  obtain ⟨m,hm,rfl⟩:=Zm.1 q;exact Kg (Iz h6 hm)
 have hj:=JQ 10000 _ hb
 grind [Bd,uS,Zj,ZK]
structure Pj (b:Nat) (w w':qW) (p r0 dd:Nat) (c0:Nat->Nat) (v:Value):Prop where
 cell:u7 w' p r0 dd
 G4:C8 w.heap.size w' c0 r0 (b:Int) (fun _=>[])
 x8:t6 w' dd v ([],false,false,0)
 m8:qL w w'
 plo:w.heap.size<=p
 pc:c0 p=0
 dlo:∀k,DA dd v k->w.heap.size<=k/\c0 k=0/\k≠p
theorem Ig(w)(b:Nat)(hb:b<4):
  qC 19 #[qN b] w fun e w'=>∃p r0 dd c0 v,e=qT #[qP p,.nilIface]/\Aside (Pj b w w' p r0 dd c0 v):=by
 have hnew:=SC w (b:Int) zj zj;go_enter func19,ntmps19;go_wp2_with fail;refine hnew.mono ?_;rintro e w1 ⟨c0,r0,rfl,hR,hb1⟩
 have H1:Aside (C8 w.heap.size w1 c0 r0 (b:Int) (fun _=>[])/\qL w w1):=⟨hR,hb1⟩
 have fA:=IT ⟨#[]⟩ w1 (by show (0:Nat)<=65536;omega);go_wp2_with fail;refine fA.mono ?_;rintro e w2 ⟨dd,v,rfl,H2⟩;go_wp2;go_ret2;have hb3:qL w2 (w2.alloc (.cells #[qP r0,qP dd] 81)):=zh w2 _;have hd:=H2.o.1;have aG:=H1.o.2.size;have aN:=H2.o.2.1.size;refine ⟨w2.heap.size,r0,dd,c0,v,rfl,heap_alloc_new w2 _,(H1.o.1.later H2.o.2.1).later hb3,hd.later hb3,(H1.o.2.trans (H2.o.2.1.mono aG)).trans (hb3.mono zj),zj,H1.o.1.high _ zj,fun k hk=> ?_⟩;have h1:=H2.o.2.2 k hk;have h2:=hd.aai hk;exact ⟨zj,H1.o.1.high k h1,zj⟩
theorem n9.grow{gd}{B}{w w1 w2}{ow}{n bm}{pv fv v2}{bp br d}{dv}{c}{K}{st}{N}{p r0 dd}{c0}{v}{o}(h:n9 gd B w ow n bm pv fv bp br d dv c K st N)(hn:n<4)(hp:Pj n w w1 p r0 dd c0 v)
  (hown:w2.ownsRow B 57 1 v2 (n+1) (BN bp n++ [qP p])) (ag:(w1.alloc o).grownBy w2 pv.ownBlock) (av:(∃g cap,pv=qG g n cap/\v2=qG g (n+1) cap)\/(v2.ownBlock=some (w1.alloc o).heap.size/\(w1.alloc o).grownBy w2 none)) (hN:N= []):
  ∃ow',n9 gd B (w2.setCell (qB bm) v2) ow' (n+1) bm v2 fv (lR bp n p) (lR br n r0) (lR d n dd) (lR dv n v) (lR c n c0) (lR K n (fun _=>[])) (lR st n ([],false,false,0)) N/\Below B w (w2.setCell (qB bm) v2):=by
 subst hN;have h1:=h.later hp.m8;have s1:=hp.m8.size
 have s2:w1.heap.size<=w2.heap.size:=by have:=ag.size;rw [Zv] at this;omega
 have gv:m7 (fun k=>pv.ownBlock=some k) w1 w2:=((m7.refl _ w1).alloc o).trans ((lS ag).mono (fun k _ hk=>by rw [<-hk]));obtain ⟨W,hW⟩:=za (w2.setCell (qB bm) v2)
 have hsW:m7 (fun k=>k=bm) w2 W:=by rw [hW];exact lZ bm [v2] 0 w2
 have hsz:W.heap.size=w2.heap.size:=by rw [hW];simp
 have hk:m7 (fun k=>pv.ownBlock=some k\/k=bm) w1 W:=(gv.mono (fun k _ e=>.inl e)).then hsW (fun k _ e=>.inr e)
 have eD:∀g,pv.ownBlock=some g->g<w.heap.size:=fun g hg=>h.F (by rw [h.op g hg];omega)
 have hbm:=h.F (by rw [h.om];omega)
 have same:∀ {k:Nat},k<w1.heap.size->(k<w.heap.size->ow k≠1/\ow k≠2)->W.heap[k]? =w1.heap[k]? :=fun {k} hkl hne=>hk.block k hkl (fun q=>by
  rcases q with q | q
  ·exact (hne (eD k q)).2 (h.op k q)
  ·exact (hne (by rw [q];exact hbm)).1 (by rw [q];exact h.om))
 have hf:∃f:Nat->Nat,(∀k,k<w.heap.size->f k=ow k)/\(∀k,c0 k≠0->f k=10+n)/\(∀k,DA dd v k->f k=20+n)/\f p=30+n/\(∀g,v2.ownBlock=some g->w.heap.size<=g->f g=2)/\(∀k,W.heap.size<=k->f k=0):=by
  refine ⟨fun k=>if k<w.heap.size then ow k else if c0 k≠0 then 10+n else if DA dd v k then 20+n else if k=p then 30+n else if k<W.heap.size then 2 else 0,fun k hk=>if_pos hk,fun k hk=> ?_,fun k hk=> ?_,?_,fun g hg ce=> ?_,fun k hkl=> ?_⟩
  ·have:=hp.G4.low k hk
   grind
  ·have:=hp.dlo k hk
   grind
  ·have:=hp.plo
   show (if _ then _ else _)=_
   rw [if_neg zj,if_neg (fun q=>q hp.pc),if_neg (fun q=>(hp.dlo p q).2.2 rfl),if_pos rfl]
  ·have hgn:w1.heap.size<=g:=by
    rcases av with ⟨g',cp,e1,e2⟩ | ⟨e1,_⟩
    ·have:=eD g xv;omega
    grind [Zv]
   have:=(hown.lt g hg).2
   show (if _ then _ else _)=_
   rw [if_neg zj,if_neg (fun q=>q (hp.G4.high g hgn)),if_neg (fun q=>by have:=hp.x8.aai q;omega),if_neg (fun q=>by have:=hp.cell.lt;omega),if_pos zj]
  show (if _ then _ else _)=_
  rw [if_neg zj,if_neg (fun q=>q (hp.G4.high k zj)),if_neg (fun q=>by have:=hp.x8.aai q;omega),if_neg (fun q=>by have:=hp.cell.lt;omega),if_neg zj]
 obtain ⟨f,f0,f1,f2,f3,f4,f5⟩:=hf
 have B9:∀ {k i:Nat},ow k=i->i≠0->f k=i:=fun {k i} e hi=>(f0 k (h.F yI)).trans e
 have in1:∀ {k i:Nat},ow k=i->i≠0->k<w1.heap.size:=fun {k i} e hi=>uY (h.F yI) s1
 have off:∀ {k i:Nat},ow k=i->i≠1->i≠2->k<w.heap.size->ow k≠1/\ow k≠2:=fun {k i} e a1 a2 _=>⟨zj,zj⟩
 rw [<-hW];refine ⟨f,⟨zj,?_,B9 h.om zj,?_,fun g hg=> ?_,?_,fun g hg=>B9 (h.of g hg) zj,fun x hx=>ya,fun r hr=> ?_,fun r hr=> ?_,fun r hr=> ?_,fun k hq=> ?_,f5,by have:=h.l9;omega,fun k o e=>⟨B9 (h.guard k o e).1 zj,(same (in1 (h.guard k o e).1 zj) (off (h.guard k o e).1 zj zj)).trans (h1.guard k o e).2⟩⟩,?_⟩
 ·rw [hW];have hm1:=h1.D8;have bJ:G7 w2 bm pv fv:=(gv.block bm (uY hbm s1) (fun q=>by have:=h.op bm q;rw [h.om] at this;omega)).trans hm1;exact bJ.aaW v2
 ·rw [Mr,lU,Jn (bp:=lR bp n p) (bp':=bp) (fun r hr=>lP _ _ zj)];refine mE hown (fun g hg=>hsW.block g (hown.lt g hg).2 (fun q=> ?_));have q':=q
  rcases av with ⟨g',cp,e1,e2⟩ | ⟨e1,_⟩
  ·have:=h.op g xv;rw [q',h.om] at this;omega
  grind [Zv]
 ·rcases av with ⟨g',cp,e1,e2⟩ | ⟨e1,_⟩
  ·have:=h.op g xv;exact B9 this zj
  grind [Zv]
 ·exact mE h1.L8 (fun g hg=>same (in1 (h.of g hg) zj) (off (h.of g hg) zj zj))
 ·by_cases e:r=n
  ·subst e;simp only [lU];exact ⟨hp.cell.same (same hp.cell.lt (fun q=>absurd q (by have:=hp.plo;omega))),f3⟩
  simp only [lP _ _ e];obtain ⟨q1,q2⟩:=h1.G0 r zj;exact ⟨q1.same (same (in1 q2 zj) (off q2 zj zj)),B9 q2 zj⟩
 ·by_cases e:r=n
  ·subst e;simp only [lU];exact ⟨(hp.G4.abE h.l9).GC zj (fun k hkl q=>same hkl (fun p=>absurd p (by have:=hp.G4.low k q;omega))),f1⟩
  simp only [lP _ _ e];obtain ⟨q1,q2⟩:=h1.G4 r zj;exact ⟨q1.GC zj (fun k hkl q=>same hkl (off (q2 k q) zj zj)),fun k q=>B9 (q2 k q) zj⟩
 ·by_cases e:r=n
  ·subst e;simp only [lU];exact ⟨hp.x8.same (fun k q=>same (hp.x8.aai q) (fun p=>absurd p (by have:=(hp.dlo k q).1;omega))),f2⟩
  simp only [lP _ _ e];obtain ⟨q1,q2⟩:=h1.x8 r zj;exact ⟨q1.same (fun k q=>same (in1 (q2 k q) zj) (off (q2 k q) zj zj)),fun k q=>B9 (q2 k q) zj⟩
 ·by_cases e:k<w.heap.size
  ·rw [f0 k e] at hq;exact h.low k hq
  have:=h.l9;omega
 exact (hp.m8.mono h.l9).trans (hk.m8 (uQ h.l9 s1) (fun k q=>by
  rcases q with q | q
  ·exact h.low k (by rw [h.op k q];omega)
  ·rw [q];exact h.low bm (by rw [h.om];omega)))
theorem zcO:(prog.info? 57).map (fun i=>(i.zero,i.size,i.bytes))=some (some (.pointer none),1,8):=zk
theorem Jl{w:qW}{l9 n}{e}{k}{v}{xs}(h:w.ownsRow l9 e k v (n+1) xs):∃g cap,v=qG g (n+1) cap:=by
 rcases h.2 with ⟨_,q⟩ | ⟨g,cap,cur,q,_⟩
 ·omega
 simp_all
theorem WO{B}(w)(aL:Nat)(h1:1<=aL)(h4:aL<=4)(hB:B<=w.heap.size):
  qC 13 #[qN aL] w fun e w'=>∃bm,e=qT #[qP bm,.nilIface]/\Aside (∃K st,p9 (fun _=>none) B aL bm K st [] w'/\qL w w'/\(∀r,r<aL->K r=fun _=>[])/\(∀r,r<aL->st r=([],false,false,0))/\w.heap.size<=bm):=by
 obtain ⟨i0,hi,aD,aw,aJ⟩:=info_parts zcO;have d1:decide ((aL:Int)<1)=false:=zl;have d2:qlt 4 aL=false:=zl;have dg:decide (aL<1)=false:=zl;have d2n:decide (4<aL)=false:=zl;obtain ⟨S,hS⟩:=ze w.heap.size;obtain ⟨U,hU⟩:=ze (w.alloc (.cells #[qE,qE] 56));have ah:qL w U:=yC
 have HU:Aside (n9 (fun _=>none) S U (fun k=>if k=S then 1 else 0) 0 S qE qE (fun _=>0) (fun _=>0) (fun _=>0) (fun _=>qE) (fun _ _=>0) (fun _ _=>[]) (fun _=>([],false,false,0)) []/\qL w U):=by
  refine ⟨⟨zj,by rw [hU.o,hS.o];exact heap_alloc_new w _,if_pos rfl,Zk _ _ _ _,fun g hg=>xC,Zk _ _ _ _,fun g hg=>xC,fun x hx=>ya,fun r hr=>absurd hr zj,fun r hr=>absurd hr zj,fun r hr=>absurd hr zj,fun k hk=> ?_,fun k hk=> ?_,by have:=ah.size;rw [hS.o];exact this,fun k o e=>yN⟩,ah⟩
  ·by_cases e:k=S
   ·omega
   exact absurd (if_neg e) hk
  have hl:U.heap.size=S+1:=by rw [hU.o,hS.o];simp
  exact if_neg zj
 go_enter func13,ntmps13;go_upto_region 4 with fail;rw [<-hU.o,<-hS.o];go_wp2;go_loopg [18] aL (fun kx s18 wr=>∃(k:Nat) (ow:Nat->Nat) (pv:Value) (bp br d:Nat->Nat) (dv:Nat->Value) (c:Nat->Nat->Nat) (K:qH) (st:qD),s18=qN k/\k<=aL/\aL - k<=kx/\Aside (n9 (fun _=>none) S wr ow k S pv qE bp br d dv c K st []/\Below S w wr/\(∀r,r<k->K r=fun _=>[])/\(∀r,r<k->st r=([],false,false,0))))
 case atStart=>exact ⟨0,_,_,_,_,_,_,_,_,_,rfl,uW _,uM _,HU.o.1,by rw [hS.o];exact HU.o.2,fun r hr=>absurd hr zj,fun r hr=>absurd hr zj⟩
 case round=>
  obtain ⟨k,ow,pv,bp,br,d,dv,c,K,st,rfl,hk,aY,A⟩:=hrel;by_cases hlt:k<aL
  ·have d1:qlt k aL=true:=by simp;omega
   have dg:decide (k<aL)=true:=zl;have hnp:=Ig wr k zj;obtain ⟨u,hu⟩:=za wr;subst hu;go_wp2_with fail;refine hnp.mono ?_;rintro e w1 ⟨p,r0,dd,c0,v,rfl,HP⟩;have hm1:=A.o.1.later HP.o.m8
   obtain ⟨v2,w2,ae,hown,ag,av⟩:=rX (P:=prog) (w1.alloc (.cells #[qP p] 57)) S 53 53 57 i0 _ 1 8 underlying53 hi aD aw aJ rfl zj pv k (BN bp k) (hm1.K9.alloc _) (qB w1.heap.size) 1 1 zj [qP p] rfl
    (YJ (cs:= #[qP p]) (t:=57) (fr:=(0,0)) (heap_alloc_new w1 _)) xj zB zj (by have:=hm1.l9;rw [Zv];omega)
   obtain ⟨ow',bJ,hb2⟩:=A.o.1.grow zj HP.o hown ag av rfl;have cM:=hm1.D8;have m0:=cM.c0
   have gC:G7 w2 S pv qE:=by
    have gv:m7 (fun k=>pv.ownBlock=some k) w1 w2:=((m7.refl _ w1).alloc _).trans ((lS ag).mono (fun k _ hk=>by rw [<-hk]));exact (gv.block S cM.lt (fun q=>by have:=A.o.1.op S q;rw [A.o.1.om] at this;omega)).trans cM
   have n0:=gC.c0;have nf:=gC.fz 0;obtain ⟨g2,cp2,rfl⟩:=Jl hown
   have HN:Aside (n9 (fun _=>none) S (w2.setCell (qB S) (qG g2 (k+1) cp2)) ow' (k+1) S (qG g2 (k+1) cp2) qE (lR bp k p) (lR br k r0) (lR d k dd) (lR dv k v) (lR c k c0) (lR K k (fun _=>[])) (lR st k ([],false,false,0)) []/\Below S w (w2.setCell (qB S) (qG g2 (k+1) cp2))/\(∀r,r<k+1->lR K k (fun _=>[]) r=fun _=>[])/\(∀r,r<k+1->lR st k ([],false,false,0) r=([],false,false,0))):=⟨bJ,A.o.2.1.trans hb2,fun r hr=>by
     by_cases e:r=k
     ·rw [e,lU]
     ·rw [lP _ _ e];exact A.o.2.2.1 r zj,fun r hr=>by
     by_cases e:r=k
     ·rw [e,lU]
     ·rw [lP _ _ e];exact A.o.2.2.2 r zj⟩
   have hpvs:=mC A.o.1.K9;obtain ⟨po,pc,rfl⟩:=hpvs;go_wp2_with (at_builtin;refine Lib.wpList_append_run _ rfl _ _ _ _ rfl _ _ rfl rfl _ _ ae ?_);go_roundg (aL - (k+1))
   case measure=>omega
   case rel=>exact ⟨k+1,_,_,_,_,_,_,_,_,_,zJ,zj,zj,HN.o⟩
  have d1:qlt k aL=false:=zl;have dg:decide (k<aL)=false:=zl;obtain rfl:k=aL:=zj;have HA:Aside (n9 (fun _=>none) S wr ow k S pv qE bp br d dv c K st []/\Below S w wr/\(∀r,r<k->K r=fun _=>[])/\(∀r,r<k->st r=([],false,false,0))):=A.o;go_wp2;go_ret2;have hm:=HA.o.1;refine ⟨S,rfl,K,st,⟨ow,pv,qE,bp,br,d,dv,c,⟨hm.X7,hm.D8,hm.om,JK hm.K9 vD,hm.op,JK hm.L8 vD,hm.of,hm.B8,hm.G0,fun r hr=>⟨(hm.G4 r hr).1.abE vD,(hm.G4 r hr).2⟩,hm.x8,fun q hq=>by have:=hm.low q hq;rw [hS.o] at this;omega,hm.high,by have:=hm.l9;rw [hS.o] at this;omega,hm.guard⟩⟩,by have:=HA.o.2.1;rwa [hS.o] at this,HA.o.2.2.1,HA.o.2.2.2,xw⟩
end
section
open ChangeShapes WideShapes ChangeAt RowKit Joins ChangeMaps
def elevenE:List (String×Nat×qU):=[("concordat/api.ErrText",1,[99,111,110,99,111,114,100,97,116,58,32,116,101,120,116]),("concordat/api.ErrBound",0,[99,111,110,99,111,114,100,97,116,58,32,98,111,117,110,100]),("concordat/api.ErrShape",2,[99,111,110,99,111,114,100,97,116,58,32,115,104,97,112,101]),("concordat/api.ErrName",3,[99,111,110,99,111,114,100,97,116,58,32,110,97,109,101]),("concordat/api.ErrKind",4,[99,111,110,99,111,114,100,97,116,58,32,107,105,110,100]),("concordat/api.ErrNone",5,[99,111,110,99,111,114,100,97,116,58,32,110,111,110,101]),("concordat/api.ErrExist",6,[99,111,110,99,111,114,100,97,116,58,32,101,120,105,115,116]),("concordat/api.ErrFull",7,[99,111,110,99,111,114,100,97,116,58,32,102,117,108,108]),("concordat/api.ErrGap",8,[99,111,110,99,111,114,100,97,116,58,32,103,97,112]),("concordat/api.ErrCycle",9,[99,111,110,99,111,114,100,97,116,58,32,99,121,99,108,101]),("concordat/api.ErrOff",10,[99,111,110,99,111,114,100,97,116,58,32,111,102,102])]
def sr:List (String×DataW Unit):=elevenE.map fun x=>(x.1,.iface "*errors.errorString" (.ptr (.agg [.lit (.string x.2.2)])))
theorem BP:∀x∈elevenE,prog.globalNamed x.1=some x.2.1/\(prog.globals[x.2.1]?).map (·.type)=some 25:=by
 have h:(elevenE.all fun x=>(prog.globalNamed x.1==some x.2.1) &&((prog.globals[x.2.1]?).map (·.type)==some 25))=true:=zk;intro x hx;have:=List.all_eq_true.1 h x hx;exact ko1
theorem pN{P:Program}{w:qW} :∀(l1 l2:List (String×DataW Unit)) (ps:List MemPlace),DataW.LaidVars P w (l1++l2) ps->∃q1 q2,DataW.LaidVars P w l1 q1/\DataW.LaidVars P w l2 q2/\ps=q1++q2
 | [],l2,ps,h=>⟨[],ps,rfl,h,rfl⟩
 | x::l1,l2,ps,h=>by
  obtain ⟨g,t,cs,fuel,p,q,a1,a2,a3,a4,a5,rfl⟩:=h;obtain ⟨q1,q2,b1,b2,rfl⟩:=pN l1 l2 q a5;exact ⟨_,q2,⟨g,t,cs,fuel,p,q1,a1,a2,a3,a4,b1,rfl⟩,b2,zq⟩
theorem BS{P:Program}{w:qW}(l1 l2 l3:List (String×DataW Unit))(h:laidMet P (l1++(l2++l3)) w):laidMet P l2 w:=by
 obtain ⟨ps,hv,bU,hr⟩:=h;obtain ⟨q1,q2,-,b,rfl⟩:=pN l1 (l2++l3) ps hv;obtain ⟨q3,q4,c,-,rfl⟩:=pN l2 l3 q2 b;exact ⟨q3,c,(ZM.1 (ZM.1 bU).2.1).1,fun b off hm=>hr b off (ZD _ (Zo _ hm))⟩
def BF:List (String×DataW Unit):=[("math/bits.deBruijn32tab",Rows.laid_math_bits_deBruijn32tab),("math/bits.deBruijn64tab",Rows.laid_math_bits_deBruijn64tab),("internal/strconv.uint64pow10",Rows.laid_internal_strconv_uint64pow10),("unicode/utf8.acceptRanges",Rows.laid_unicode_utf8_acceptRanges)]++(sr++ [("unicode/utf8.first",Rows.laid_unicode_utf8_first)])
theorem zaz{W:qW}(h:laidMet prog BF W)(cl:W.ShapedOpen prog):∃ad:Nat->Addr,E7 W.heap.size ad W:=by
 have co:laidMet prog sr W:=BS _ sr _ h;obtain ⟨az,aI⟩:=zay elevenE BP co;obtain ⟨m,hm⟩:=Tryz.ab0.s1_3 W cl;have hp:("internal/strconv.uint64pow10",Rows.laid_internal_strconv_uint64pow10)∈BF:=.tail _ (.tail _ (.head _));have hq:("math/bits.deBruijn64tab",Rows.laid_math_bits_deBruijn64tab)∈BF:=.tail _ (.head _);have ht:=zci (Lib.laidMet.reads h hp)
 have hg:13<W.heap.size:=by
  unfold Lib.TabIs at ht;exact uP W (qB 13) ((YV gPow ht 0).trans (show _=some (Value.int .u64 1) by kernel_rfl))
 exact ⟨fun i=>if i=100 then (qB 1) else az.getD i (qB 0),⟨⟨⟨aI 1 _ rfl,aI 2 _ rfl,aI 3 _ rfl,aI 4 _ rfl⟩,aI 5 _ rfl,aI 6 _ rfl,aI 7 _ rfl,aI 8 _ rfl,fun _=>aI 9 _ rfl,zj,uM _⟩,Lib.tabBelow_of_tabIs ht⟩,
  zbl ⟨⟨⟨aI 1 _ rfl,aI 2 _ rfl,aI 3 _ rfl,aI 4 _ rfl⟩,ht⟩,⟨aI 1 _ rfl,aI 2 _ rfl,aI 7 _ rfl,aI 10 _ rfl⟩,zce (Lib.laidMet.reads h hq),aI 0 _ rfl,m,hm⟩,rfl⟩

end