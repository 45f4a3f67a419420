import Derived.Test.YtebpcnkdhgnghaaGreatDoorPA33
set_option linter.unusedSimpArgs false
set_option linter.unusedVariables false
set_option maxRecDepth 100000
set_option maxHeartbeats 64000000
namespace Go.Proofs.YtebpcnkdhgnghaaGreatDoor
open Go.Proofs.Tryz
variable {B n:Nat} {v:Value} {w:World}
section
open Go.RowKit Go.Lib Go.Sort Go.Maps
open scoped Classical
structure DC (b:Nat) (w w':World) (p r0 dd:Nat) (c0:Nat->Nat) (v:Value):Prop where
 cell:PeerC w' p r0 dd
 rep:RepOwn w.heap.size w' c0 r0 (b:Int) (fun _=>[])
 disk:DiskAt w' dd v ([],false,false,0)
 below:Below w.heap.size w w'
 plo:w.heap.size<=p
 pc:c0 p=0
 dlo:∀k,nP dd v k->w.heap.size<=k/\c0 k=0/\k≠p
theorem wM (w:World) (b:Nat) (hb:b<4):
  Calls prog 42 #[.int .i64 (b:Int)] w fun e w'=>∃p r0 dd c0 v,e= .returned (.tuple #[.pointer (some ⟨p,0,none⟩),.nilIface])/\Aside (DC b w w' p r0 dd c0 v):=by
 have hnew:=FO w (b:Int) zj zj
 go_enter func42,ntmps42
 go_wp2_with fail
 refine hnew.mono ?_
 clear hnew
 rintro e w1 ⟨c0,r0,rfl,hR,hb1⟩
 have H1:Aside (RepOwn w.heap.size w1 c0 r0 (b:Int) (fun _=>[])/\Below w.heap.size w w1):=⟨hR,hb1⟩
 have hdk:=sD ⟨#[]⟩ w1 (by show (0:Nat)<=65536;omega)
 clear hR hb1
 go_wp2_with fail
 refine hdk.mono ?_
 clear hdk
 rintro e w2 ⟨dd,v,rfl,H2⟩
 go_wp2
 go_ret2
 have hb3:Below w2.heap.size w2 (w2.alloc (.cells #[.pointer (some ⟨r0,0,none⟩),.pointer (some ⟨dd,0,none⟩)] 101)):=zh w2 _
 have hd:=H2.o.1
 have hs1:=H1.o.2.size
 have hs2:=H2.o.2.1.size
 refine ⟨w2.heap.size,r0,dd,c0,v,rfl,heap_alloc_new w2 _,(H1.o.1.later H2.o.2.1).later hb3,hd.later hb3,(H1.o.2.trans (H2.o.2.1.mono hs1)).trans (hb3.mono zj),zj,H1.o.1.high _ zj,fun k hk=> ?_⟩
 have h1:=H2.o.2.2 k hk
 have h2:=hd.own_lt hk
 exact ⟨zj,H1.o.1.high k h1,zj⟩
theorem MeshAt.grow {gd:Nat->Option Obj} {w1 w2:World} {ow:Nat->Nat} {bm:Nat} {pv fv v2:Value} {bp br d:Nat->Nat} {dv:Nat->Value} {c:Nat->Nat->Nat} {K:Nat->Rws} {st:Nat->DSt} {N:List aO} {p r0 dd:Nat} {c0:Nat->Nat} {o:Obj} (h:MeshAt gd B w ow n bm pv fv bp br d dv c K st N) (hn:n<4) (hp:DC n w w1 p r0 dd c0 v)
  (hown:w2.ownsRow B 94 1 v2 (n+1) (kD bp n++ [.pointer (some ⟨p,0,none⟩)])) (hgrow:(w1.alloc o).grownBy w2 pv.ownBlock) (hcase:(∃g cap,pv= .slice (some ⟨g,0,none⟩) n cap/\v2= .slice (some ⟨g,0,none⟩) (n+1) cap)\/(v2.ownBlock=some (w1.alloc o).heap.size/\(w1.alloc o).grownBy w2 none)) (hN:N= []):
  ∃ow',MeshAt gd B (w2.setCell ⟨bm,0,none⟩ v2) ow' (n+1) bm v2 fv (aN bp n p) (aN br n r0) (aN d n dd) (aN dv n v) (aN c n c0) (aN K n (fun _=>[])) (aN st n ([],false,false,0)) N/\Below B w (w2.setCell ⟨bm,0,none⟩ v2):=by
 subst hN
 have h1:=h.later hp.below
 have s1:=hp.below.size
 have s2:w1.heap.size<=w2.heap.size:=by have:=hgrow.size;rw [vL] at this;omega
 have hk1:Keeps (fun k=>pv.ownBlock=some k) w1 w2:=((Keeps.refl _ w1).alloc o).trans ((aP hgrow).mono (fun k _ hk=>by rw [<-hk]))
 obtain ⟨W,hW⟩:=za (w2.setCell ⟨bm,0,none⟩ v2)
 have hsW:Keeps (fun k=>k=bm) w2 W:=by rw [hW];exact aY bm [v2] 0 w2
 have hsz:W.heap.size=w2.heap.size:=by rw [hW];simp
 have hk:Keeps (fun k=>pv.ownBlock=some k\/k=bm) w1 W:=(hk1.mono (fun k _ e=>.inl e)).then hsW (fun k _ e=>.inr e)
 have hpv:∀g,pv.ownBlock=some g->g<w.heap.size:=fun g hg=>h.in_ (by rw [h.op g hg];omega)
 have hbm:bm<w.heap.size:=h.in_ (by rw [h.om];omega)
 have same:∀ {k:Nat},k<w1.heap.size->(k<w.heap.size->ow k≠1/\ow k≠2)->W.heap[k]? =w1.heap[k]? :=fun {k} hkl hne=>hk.block k hkl (fun q=>by
  rcases q with q | q
  ·exact (hne (hpv k q)).2 (h.op k q)
  ·exact (hne (by rw [q];exact hbm)).1 (by rw [q];exact h.om))
 have hf:∃f:Nat->Nat,(∀k,k<w.heap.size->f k=ow k)/\(∀k,c0 k≠0->f k=10+n)/\(∀k,nP dd v k->f k=20+n)/\f p=30+n/\(∀g,v2.ownBlock=some g->w.heap.size<=g->f g=2)/\(∀k,W.heap.size<=k->f k=0):=by
  refine ⟨fun k=>if k<w.heap.size then ow k else if c0 k≠0 then 10+n else if nP dd v k then 20+n else if k=p then 30+n else if k<W.heap.size then 2 else 0,fun k hk=>if_pos hk,fun k hk=> ?_,fun k hk=> ?_,?_,fun g hg hgl=> ?_,fun k hkl=> ?_⟩
  ·have:=hp.rep.low k hk
   show (if _ then _ else _)=_
   rw [if_neg zj,if_pos hk]
  ·have:=hp.dlo k hk
   show (if _ then _ else _)=_
   rw [if_neg zj,if_neg (fun q=>q this.2.1),if_pos hk]
  ·have:=hp.plo
   show (if _ then _ else _)=_
   rw [if_neg zj,if_neg (fun q=>q hp.pc),if_neg (fun q=>(hp.dlo p q).2.2 rfl),if_pos rfl]
  ·have hgn:w1.heap.size<=g:=by
    rcases hcase with ⟨g',cp,e1,e2⟩ | ⟨e1,_⟩
    ·have:=hpv g qD
     omega
    exact kk4
   have:=(hown.lt g hg).2
   show (if _ then _ else _)=_
   rw [if_neg zj,if_neg (fun q=>q (hp.rep.high g hgn)),if_neg (fun q=>by have:=hp.disk.own_lt q;omega),if_neg (fun q=>by have:=hp.cell.lt;omega),if_pos zj]
  show (if _ then _ else _)=_
  rw [if_neg zj,if_neg (fun q=>q (hp.rep.high k zj)),if_neg (fun q=>by have:=hp.disk.own_lt q;omega),if_neg (fun q=>by have:=hp.cell.lt;omega),if_neg zj]
 obtain ⟨f,f0,f1,f2,f3,f4,f5⟩:=hf
 have hue:∀ {k i:Nat},ow k=i->i≠0->f k=i:=fun {k i} e hi=>(f0 k (h.in_ yh)).trans e
 have in1:∀ {k i:Nat},ow k=i->i≠0->k<w1.heap.size:=fun {k i} e hi=>jW (h.in_ yh) s1
 have off:∀ {k i:Nat},ow k=i->i≠1->i≠2->k<w.heap.size->ow k≠1/\ow k≠2:=fun {k i} e a1 a2 _=>⟨zj,zj⟩
 rw [<-hW]
 refine ⟨f,⟨zj,?_,hue h.om zj,?_,fun g hg=> ?_,?_,fun g hg=>hue (h.of g hg) zj,fun x hx=>zP,fun r hr=> ?_,fun r hr=> ?_,fun r hr=> ?_,fun k hq=> ?_,f5,by have:=h.base;omega,fun k o e=>⟨hue (h.guard k o e).1 zj,(same (in1 (h.guard k o e).1 zj) (off (h.guard k o e).1 zj zj)).trans (h1.guard k o e).2⟩⟩,?_⟩
 ·rw [hW]
  have hm1:MeshC w1 bm pv fv:=h1.mesh
  have hm2:MeshC w2 bm pv fv:=(hk1.block bm (jW hbm s1) (fun q=>by have:=h.op bm q;rw [h.om] at this;omega)).trans hm1
  exact hm2.set0 v2
 ·rw [CP,aR,th (bp:=aN bp n p) (bp':=bp) (fun r hr=>aK _ _ zj)]
  refine au hown (fun g hg=>hsW.block g (hown.lt g hg).2 (fun q=> ?_))
  have q':g=bm:=q
  rcases hcase with ⟨g',cp,e1,e2⟩ | ⟨e1,_⟩
  ·have:=h.op g qD
   rw [q',h.om] at this
   omega
  rw [hg] at e1
  cases e1
  rw [vL] at q'
  omega
 ·rcases hcase with ⟨g',cp,e1,e2⟩ | ⟨e1,_⟩
  ·have:=h.op g qD
   exact hue this zj
  refine f4 g hg ?_
  exact kk4
 ·exact au h1.fly (fun g hg=>same (in1 (h.of g hg) zj) (off (h.of g hg) zj zj))
 ·by_cases e:r=n
  ·subst e
   simp only [aR]
   exact ⟨hp.cell.same (same hp.cell.lt (fun q=>absurd q (by have:=hp.plo;omega))),f3⟩
  simp only [aK _ _ e]
  obtain ⟨q1,q2⟩:=h1.peer r zj
  exact ⟨q1.same (same (in1 q2 zj) (off q2 zj zj)),hue q2 zj⟩
 ·by_cases e:r=n
  ·subst e
   simp only [aR]
   exact ⟨(hp.rep.down h.base).keep zj (fun k hkl q=>same hkl (fun p=>absurd p (by have:=hp.rep.low k q;omega))),f1⟩
  simp only [aK _ _ e]
  obtain ⟨q1,q2⟩:=h1.rep r zj
  exact ⟨q1.keep zj (fun k hkl q=>same hkl (off (q2 k q) zj zj)),fun k q=>hue (q2 k q) zj⟩
 ·by_cases e:r=n
  ·subst e
   simp only [aR]
   exact ⟨hp.disk.same (fun k q=>same (hp.disk.own_lt q) (fun p=>absurd p (by have:=(hp.dlo k q).1;omega))),f2⟩
  simp only [aK _ _ e]
  obtain ⟨q1,q2⟩:=h1.disk r zj
  exact ⟨q1.same (fun k q=>same (in1 (q2 k q) zj) (off (q2 k q) zj zj)),fun k q=>hue (q2 k q) zj⟩
 ·by_cases e:k<w.heap.size
  ·rw [f0 k e] at hq;exact h.low k hq
  have:=h.base;omega
 exact (hp.below.mono h.base).trans (hk.below (jM h.base s1) (fun k q=>by
  rcases q with q | q
  ·exact h.low k (by rw [h.op k q];omega)
  ·rw [q];exact h.low bm (by rw [h.om];omega)))
theorem Mx:(prog.info? 94).map (fun i=>(i.zero,i.size,i.bytes))=some (some (.pointer none),1,8):=zk
theorem lp {base:Nat} {e:TypeId} {k:Nat} {xs:List Value} (h:w.ownsRow base e k v (n+1) xs):∃g cap,v= .slice (some ⟨g,0,none⟩) (n+1) cap:=by
 rcases h.2 with ⟨_,q⟩ | ⟨g,cap,cur,q,_⟩
 ·omega
 exact ⟨g,cap,q⟩
theorem ou (w:World) (many:Nat) (h1:1<=many) (h4:many<=4) (hB:B<=w.heap.size):
  Calls prog 14 #[.int .i64 (many:Int)] w fun e w'=>∃bm,e= .returned (.tuple #[.pointer (some ⟨bm,0,none⟩),.nilIface])/\Aside (∃K st,MeshS (fun _=>none) B many bm K st [] w'/\Below w.heap.size w w'/\(∀r,r<many->K r=fun _=>[])/\(∀r,r<many->st r=([],false,false,0))/\w.heap.size<=bm):=by
 obtain ⟨i0,hi,hz0,hz1,hz2⟩:=info_parts Mx
 have d1:decide ((many:Int)<1)=false:=zl
 have d2:decide ((4:Int)<(many:Int))=false:=zl
 have d1n:decide (many<1)=false:=zl
 have d2n:decide (4<many)=false:=zl
 obtain ⟨S,hS⟩:=ze w.heap.size
 obtain ⟨U,hU⟩:=ze (w.alloc (.cells #[.slice none 0 0,.slice none 0 0] 93))
 have hbU:Below w.heap.size w U:=yg
 have HU:Aside (MeshAt (fun _=>none) S U (fun k=>if k=S then 1 else 0) 0 S (.slice none 0 0) (.slice none 0 0) (fun _=>0) (fun _=>0) (fun _=>0) (fun _=>.slice none 0 0) (fun _ _=>0) (fun _ _=>[]) (fun _=>([],false,false,0)) []/\Below w.heap.size w U):=by
  refine ⟨⟨zj,by rw [hU.o,hS.o];exact heap_alloc_new w _,if_pos rfl,vD _ _ _ _,fun g hg=>qI,vD _ _ _ _,fun g hg=>qI,fun x hx=>zP,fun r hr=>absurd hr zj,fun r hr=>absurd hr zj,fun r hr=>absurd hr zj,fun k hk=> ?_,fun k hk=> ?_,by have:=hbU.size;rw [hS.o];exact this,fun k o e=>qu⟩,hbU⟩
  ·by_cases e:k=S
   ·omega
   exact absurd (if_neg e) hk
  have hl:U.heap.size=S+1:=by rw [hU.o,hS.o];simp
  exact if_neg zj
 clear hbU
 go_enter func14,ntmps14
 go_upto_region 4 with fail
 rw [<-hU.o,<-hS.o]
 clear d1 d2 d1n d2n
 go_wp2
 go_loopg [18] many (fun kx s18 wr=>∃(k:Nat) (ow:Nat->Nat) (pv:Value) (bp br d:Nat->Nat) (dv:Nat->Value) (c:Nat->Nat->Nat) (K:Nat->Rws) (st:Nat->DSt),s18= .int .i64 (k:Int)/\k<=many/\many - k<=kx/\Aside (MeshAt (fun _=>none) S wr ow k S pv (.slice none 0 0) bp br d dv c K st []/\Below S w wr/\(∀r,r<k->K r=fun _=>[])/\(∀r,r<k->st r=([],false,false,0))))
 case atStart=>exact ⟨0,_,_,_,_,_,_,_,_,_,rfl,jX _,jL _,HU.o.1,by rw [hS.o];exact HU.o.2,fun r hr=>absurd hr zj,fun r hr=>absurd hr zj⟩
 case round=>
  obtain ⟨k,ow,pv,bp,br,d,dv,c,K,st,rfl,hk,hkx,A⟩:=hrel
  clear HU
  by_cases hlt:k<many
  ·have d1:decide ((k:Int)<(many:Int))=true:=by simp;omega
   have d1n:decide (k<many)=true:=zl
   have hnp:=wM wr k zj
   obtain ⟨u,hu⟩:=za wr
   subst hu
   go_wp2_with fail
   refine hnp.mono ?_
   clear hnp
   rintro e w1 ⟨p,r0,dd,c0,v,rfl,HP⟩
   have hm1:=A.o.1.later HP.o.below
   obtain ⟨v2,w2,hrun,hown,hgrow,hcase⟩:=dZ (P:=prog) (w1.alloc (.cells #[.pointer (some ⟨p,0,none⟩)] 94)) S 90 90 94 i0 _ 1 8 underlying90 hi hz0 hz1 hz2 rfl zj pv k (kD bp k) (hm1.peers.alloc _) ⟨w1.heap.size,0,none⟩ 1 1 zj [.pointer (some ⟨p,0,none⟩)] rfl
    (ui (cs:= #[.pointer (some ⟨p,0,none⟩)]) (t:=94) (fr:=(0,0)) (heap_alloc_new w1 _)) qt zu zj (by have:=hm1.base;rw [vL];omega)
   obtain ⟨ow',hm2,hb2⟩:=A.o.1.grow zj HP.o hown hgrow hcase rfl
   have hM1:=hm1.mesh
   have m0:=hM1.c0
   have hM2:MeshC w2 S pv (.slice none 0 0):=by
    have hk1:Keeps (fun k=>pv.ownBlock=some k) w1 w2:=((Keeps.refl _ w1).alloc _).trans ((aP hgrow).mono (fun k _ hk=>by rw [<-hk]))
    exact (hk1.block S hM1.lt (fun q=>by have:=A.o.1.op S q;rw [A.o.1.om] at this;omega)).trans hM1
   have n0:=hM2.c0
   have nf:=hM2.fz 0
   obtain ⟨g2,cp2,rfl⟩:=lp hown
   have HN:Aside (MeshAt (fun _=>none) S (w2.setCell ⟨S,0,none⟩ (.slice (some ⟨g2,0,none⟩) (k+1) cp2)) ow' (k+1) S (.slice (some ⟨g2,0,none⟩) (k+1) cp2) (.slice none 0 0) (aN bp k p) (aN br k r0) (aN d k dd) (aN dv k v) (aN c k c0) (aN K k (fun _=>[])) (aN st k ([],false,false,0)) []/\Below S w (w2.setCell ⟨S,0,none⟩ (.slice (some ⟨g2,0,none⟩) (k+1) cp2))/\(∀r,r<k+1->aN K k (fun _=>[]) r=fun _=>[])/\(∀r,r<k+1->aN st k ([],false,false,0) r=([],false,false,0))):=⟨hm2,A.o.2.1.trans hb2,fun r hr=>by
     by_cases e:r=k
     ·rw [e,aR]
     ·rw [aK _ _ e];exact A.o.2.2.1 r zj,fun r hr=>by
     by_cases e:r=k
     ·rw [e,aR]
     ·rw [aK _ _ e];exact A.o.2.2.2 r zj⟩
   have hpvs:∃po pc,pv= .slice po k pc:=dV A.o.1.peers
   obtain ⟨po,pc,rfl⟩:=hpvs
   clear hm1 hown hgrow hcase hm2 hb2 hM1 hM2 HP A
   go_wp2_with (at_builtin;refine Lib.wpList_append_run _ rfl _ _ _ _ rfl _ _ rfl rfl _ _ hrun ?_)
   go_roundg (many - (k+1))
   case measure=>omega
   case rel=>exact ⟨k+1,_,_,_,_,_,_,_,_,_,zI,zj,zj,HN.o⟩
  have d1:decide ((k:Int)<(many:Int))=false:=zl
  have d1n:decide (k<many)=false:=zl
  obtain rfl:k=many:=zj
  have HA:Aside (MeshAt (fun _=>none) S wr ow k S pv (.slice none 0 0) bp br d dv c K st []/\Below S w wr/\(∀r,r<k->K r=fun _=>[])/\(∀r,r<k->st r=([],false,false,0))):=A.o
  go_wp2
  go_ret2
  have hm:=HA.o.1
  refine ⟨S,rfl,K,st,⟨ow,pv,.slice none 0 0,bp,br,d,dv,c,⟨hm.few,hm.mesh,hm.om,tY hm.peers xH,hm.op,tY hm.fly xH,hm.of,hm.notes,hm.peer,fun r hr=>⟨(hm.rep r hr).1.down xH,(hm.rep r hr).2⟩,hm.disk,fun q hq=>by have:=hm.low q hq;rw [hS.o] at this;omega,hm.high,by have:=hm.base;rw [hS.o] at this;omega,hm.guard⟩⟩,by have:=HA.o.2.1;rwa [hS.o] at this,HA.o.2.2.1,HA.o.2.2.2,yL⟩
