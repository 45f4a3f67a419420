import Derived.Test.YtebpcnkdhgnghaaGreatDoorPM37
import Derived.Test.YtebpcnkdhgnghaaGreatDoorPM38
set_option linter.unusedSimpArgs false
set_option linter.unusedVariables false
set_option maxRecDepth 100000
set_option maxHeartbeats 64000000
namespace Go.Proofs.YtebpcnkdhgnghaaGreatDoor
open Go.Proofs.Tryz
variable {T:Int} {cs:List Int} {N:List ae} {A:List OpX} {xs:List Value} {B bm i n:Nat} {ad:Nat→Addr} {st st':Nat→DSt} {bp br d ow:Nat→Nat} {gd:Nat→Option Obj} {K K':Nat→Rws} {dv:Nat→Value} {o:Obj} {x y:OpX} {a:OpX×Nat} {fv pv v:Value} {w w':World}
section
open Go.RowKit Go.Lib Go.Sort Go.Maps
open scoped Classical
structure Fs (b:Nat) (w w':World) (p r0 dd:Nat) (c0:Nat->Nat) (v:Value):Prop where
 cell:PeerC w' p r0 dd
 rep:RepOwn w.heap.size w' c0 r0 (b:Int) (fun _=>[])
 disk:DiskAt w' dd v ([],false,false,0)
 below:Below w.heap.size w w'
 plo:w.heap.size<=p
 pc:c0 p=0
 dlo:∀k,pL dd v k->w.heap.size<=k/\c0 k=0/\k≠p
theorem tI (w:World) (b:Nat) (hb:b<4):
  Calls prog 42 #[.int .i64 (b:Int)] w fun e w'=>∃p r0 dd c0 v,e= .returned (.tuple #[.pointer (some ⟨p,0,none⟩),.nilIface])/\Aside (Fs b w w' p r0 dd c0 v):=by
 have hnew:=EG w (b:Int) zj zj
 go_enter func42,ntmps42
 go_wp2_with fail
 refine hnew.mono ?_
 clear hnew
 rintro e w1 ⟨c0,r0,rfl,hR,hb1⟩
 have H1:Aside (RepOwn w.heap.size w1 c0 r0 (b:Int) (fun _=>[])/\Below w.heap.size w w1):=⟨hR,hb1⟩
 have hdk:=tZ ⟨#[]⟩ w1 (by show (0:Nat)<=65536;omega)
 clear hR hb1
 go_wp2_with fail
 refine hdk.mono ?_
 clear hdk
 rintro e w2 ⟨dd,v,rfl,H2⟩
 go_wp2
 go_ret2
 have hb3:Below w2.heap.size w2 (w2.alloc (.cells #[.pointer (some ⟨r0,0,none⟩),.pointer (some ⟨dd,0,none⟩)] 101)):=zh w2 _
 have hd:=H2.o.1
 have hs1:=H1.o.2.size
 have hs2:=H2.o.2.1.size
 refine ⟨w2.heap.size,r0,dd,c0,v,rfl,heap_alloc_new w2 _,(H1.o.1.later H2.o.2.1).later hb3,hd.later hb3,(H1.o.2.trans (H2.o.2.1.mono hs1)).trans (hb3.mono zj),zj,H1.o.1.high _ zj,fun k hk=> ?_⟩
 have h1:=H2.o.2.2 k hk
 have h2:=hd.own_lt hk
 exact ⟨zj,H1.o.1.high k h1,zj⟩
theorem MeshAt.grow {w1 w2:World} {v2:Value} {c:Nat->Nat->Nat} {p r0 dd:Nat} {c0:Nat->Nat} (h:MeshAt gd B w ow n bm pv fv bp br d dv c K st N) (hn:n<4) (hp:Fs n w w1 p r0 dd c0 v)
  (hown:w2.ownsRow B 94 1 v2 (n+1) (kD bp n++ [.pointer (some ⟨p,0,none⟩)])) (hgrow:(w1.alloc o).grownBy w2 pv.ownBlock) (hcase:(∃g cap,pv= .slice (some ⟨g,0,none⟩) n cap/\v2= .slice (some ⟨g,0,none⟩) (n+1) cap)\/(v2.ownBlock=some (w1.alloc o).heap.size/\(w1.alloc o).grownBy w2 none)) (hN:N= []):
  ∃ow',MeshAt gd B (w2.setCell ⟨bm,0,none⟩ v2) ow' (n+1) bm v2 fv (aa bp n p) (aa br n r0) (aa d n dd) (aa dv n v) (aa c n c0) (aa K n (fun _=>[])) (aa st n ([],false,false,0)) N/\Below B w (w2.setCell ⟨bm,0,none⟩ v2):=by
 subst hN
 have h1:=h.later hp.below
 have s1:=hp.below.size
 have s2:w1.heap.size<=w2.heap.size:=by have:=hgrow.size;rw [uD] at this;omega
 have hk1:Keeps (fun k=>pv.ownBlock=some k) w1 w2:=((Keeps.refl _ w1).alloc o).trans ((aV hgrow).mono (fun k _ hk=>by rw [<-hk]))
 obtain ⟨W,hW⟩:=zc (w2.setCell ⟨bm,0,none⟩ v2)
 have hsW:Keeps (fun k=>k=bm) w2 W:=by rw [hW];exact aZ bm [v2] 0 w2
 have hsz:W.heap.size=w2.heap.size:=by rw [hW];simp
 have hk:Keeps (fun k=>pv.ownBlock=some k\/k=bm) w1 W:=(hk1.mono (fun k _ e=>.inl e)).then hsW (fun k _ e=>.inr e)
 have hpv:∀g,pv.ownBlock=some g->g<w.heap.size:=fun g hg=>h.in_ (by rw [h.op g hg];omega)
 have hbm:bm<w.heap.size:=h.in_ (by rw [h.om];omega)
 have same:∀ {k:Nat},k<w1.heap.size->(k<w.heap.size->ow k≠1/\ow k≠2)->W.heap[k]? =w1.heap[k]? :=fun {k} hkl hne=>hk.block k hkl (fun q=>by
  rcases q with q | q
  ·exact (hne (hpv k q)).2 (h.op k q)
  ·exact (hne (by rw [q];exact hbm)).1 (by rw [q];exact h.om))
 have hf:∃f:Nat->Nat,(∀k,k<w.heap.size->f k=ow k)/\(∀k,c0 k≠0->f k=10+n)/\(∀k,pL dd v k->f k=20+n)/\f p=30+n/\(∀g,v2.ownBlock=some g->w.heap.size<=g->f g=2)/\(∀k,W.heap.size<=k->f k=0):=by
  refine ⟨fun k=>if k<w.heap.size then ow k else if c0 k≠0 then 10+n else if pL dd v k then 20+n else if k=p then 30+n else if k<W.heap.size then 2 else 0,fun k hk=>if_pos hk,fun k hk=> ?_,fun k hk=> ?_,?_,fun g hg hgl=> ?_,fun k hkl=> ?_⟩
  ·have:=hp.rep.low k hk
   show (if _ then _ else _)=_
   rw [if_neg zj,if_pos hk]
  ·have:=hp.dlo k hk
   show (if _ then _ else _)=_
   rw [if_neg zj,if_neg (fun q=>q this.2.1),if_pos hk]
  ·have:=hp.plo
   show (if _ then _ else _)=_
   rw [if_neg zj,if_neg (fun q=>q hp.pc),if_neg (fun q=>(hp.dlo p q).2.2 rfl),if_pos rfl]
  ·have hgn:w1.heap.size<=g:=by
    rcases hcase with ⟨g',cp,e1,e2⟩ | ⟨e1,_⟩
    ·have:=hpv g xj
     omega
    exact km4
   have:=(hown.lt g hg).2
   show (if _ then _ else _)=_
   rw [if_neg zj,if_neg (fun q=>q (hp.rep.high g hgn)),if_neg (fun q=>by have:=hp.disk.own_lt q;omega),if_neg (fun q=>by have:=hp.cell.lt;omega),if_pos zj]
  show (if _ then _ else _)=_
  rw [if_neg zj,if_neg (fun q=>q (hp.rep.high k zj)),if_neg (fun q=>by have:=hp.disk.own_lt q;omega),if_neg (fun q=>by have:=hp.cell.lt;omega),if_neg zj]
 obtain ⟨f,f0,f1,f2,f3,f4,f5⟩:=hf
 have hue:∀ {k i:Nat},ow k=i->i≠0->f k=i:=fun {k i} e hi=>(f0 k (h.in_ yK)).trans e
 have in1:∀ {k i:Nat},ow k=i->i≠0->k<w1.heap.size:=fun {k i} e hi=>vV (h.in_ yK) s1
 have off:∀ {k i:Nat},ow k=i->i≠1->i≠2->k<w.heap.size->ow k≠1/\ow k≠2:=fun {k i} e a1 a2 _=>⟨zj,zj⟩
 rw [<-hW]
 refine ⟨f,⟨zj,?_,hue h.om zj,?_,fun g hg=> ?_,?_,fun g hg=>hue (h.of g hg) zj,fun x hx=>zW,fun r hr=> ?_,fun r hr=> ?_,fun r hr=> ?_,fun k hq=> ?_,f5,by have:=h.base;omega,fun k o e=>⟨hue (h.guard k o e).1 zj,(same (in1 (h.guard k o e).1 zj) (off (h.guard k o e).1 zj zj)).trans (h1.guard k o e).2⟩⟩,?_⟩
 ·rw [hW]
  have hm1:MeshC w1 bm pv fv:=h1.mesh
  have hm2:MeshC w2 bm pv fv:=(hk1.block bm (vV hbm s1) (fun q=>by have:=h.op bm q;rw [h.om] at this;omega)).trans hm1
  exact hm2.set0 v2
 ·rw [BE,au,tF (bp:=aa bp n p) (bp':=bp) (fun r hr=>aj _ _ zj)]
  refine av hown (fun g hg=>hsW.block g (hown.lt g hg).2 (fun q=> ?_))
  have q':g=bm:=q
  rcases hcase with ⟨g',cp,e1,e2⟩ | ⟨e1,_⟩
  ·have:=h.op g xj
   rw [q',h.om] at this
   omega
  rw [hg] at e1
  cases e1
  rw [uD] at q'
  omega
 ·rcases hcase with ⟨g',cp,e1,e2⟩ | ⟨e1,_⟩
  ·have:=h.op g xj
   exact hue this zj
  refine f4 g hg ?_
  exact km4
 ·exact av h1.fly (fun g hg=>same (in1 (h.of g hg) zj) (off (h.of g hg) zj zj))
 ·by_cases e:r=n
  ·subst e
   simp only [au]
   exact ⟨hp.cell.same (same hp.cell.lt (fun q=>absurd q (by have:=hp.plo;omega))),f3⟩
  simp only [aj _ _ e]
  obtain ⟨q1,q2⟩:=h1.peer r zj
  exact ⟨q1.same (same (in1 q2 zj) (off q2 zj zj)),hue q2 zj⟩
 ·by_cases e:r=n
  ·subst e
   simp only [au]
   exact ⟨(hp.rep.down h.base).keep zj (fun k hkl q=>same hkl (fun p=>absurd p (by have:=hp.rep.low k q;omega))),f1⟩
  simp only [aj _ _ e]
  obtain ⟨q1,q2⟩:=h1.rep r zj
  exact ⟨q1.keep zj (fun k hkl q=>same hkl (off (q2 k q) zj zj)),fun k q=>hue (q2 k q) zj⟩
 ·by_cases e:r=n
  ·subst e
   simp only [au]
   exact ⟨hp.disk.same (fun k q=>same (hp.disk.own_lt q) (fun p=>absurd p (by have:=(hp.dlo k q).1;omega))),f2⟩
  simp only [aj _ _ e]
  obtain ⟨q1,q2⟩:=h1.disk r zj
  exact ⟨q1.same (fun k q=>same (in1 (q2 k q) zj) (off (q2 k q) zj zj)),fun k q=>hue (q2 k q) zj⟩
 ·by_cases e:k<w.heap.size
  ·rw [f0 k e] at hq;exact h.low k hq
  have:=h.base;omega
 exact (hp.below.mono h.base).trans (hk.below (vI h.base s1) (fun k q=>by
  rcases q with q | q
  ·exact h.low k (by rw [h.op k q];omega)
  ·rw [q];exact h.low bm (by rw [h.om];omega)))
theorem NH:(prog.info? 94).map (fun i=>(i.zero,i.size,i.bytes))=some (some (.pointer none),1,8):=zo
theorem mw {base:Nat} {e:TypeId} {k:Nat} (h:w.ownsRow base e k v (n+1) xs):∃g cap,v= .slice (some ⟨g,0,none⟩) (n+1) cap:=by
 rcases h.2 with ⟨_,q⟩ | ⟨g,cap,cur,q,_⟩
 ·omega
 exact ⟨g,cap,q⟩
theorem Hf (w:World) (many:Nat) (h1:1<=many) (h4:many<=4) (hB:B<=w.heap.size):
  Calls prog 14 #[.int .i64 (many:Int)] w fun e w'=>∃bm,e= .returned (.tuple #[.pointer (some ⟨bm,0,none⟩),.nilIface])/\Aside (∃K st,MeshS (fun _=>none) B many bm K st [] w'/\Below w.heap.size w w'/\(∀r,r<many->K r=fun _=>[])/\(∀r,r<many->st r=([],false,false,0))/\w.heap.size<=bm):=by
 obtain ⟨i0,hi,hz0,hz1,hz2⟩:=info_parts NH
 have d1:decide ((many:Int)<1)=false:=zq
 have d2:decide ((4:Int)<(many:Int))=false:=zq
 have d1n:decide (many<1)=false:=zq
 have d2n:decide (4<many)=false:=zq
 obtain ⟨S,hS⟩:=ze w.heap.size
 obtain ⟨U,hU⟩:=ze (w.alloc (.cells #[.slice none 0 0,.slice none 0 0] 93))
 have hbU:Below w.heap.size w U:=yq
 have HU:Aside (MeshAt (fun _=>none) S U (fun k=>if k=S then 1 else 0) 0 S (.slice none 0 0) (.slice none 0 0) (fun _=>0) (fun _=>0) (fun _=>0) (fun _=>.slice none 0 0) (fun _ _=>0) (fun _ _=>[]) (fun _=>([],false,false,0)) []/\Below w.heap.size w U):=by
  refine ⟨⟨zj,by rw [hU.o,hS.o];exact heap_alloc_new w _,if_pos rfl,uf _ _ _ _,fun g hg=>jl,uf _ _ _ _,fun g hg=>jl,fun x hx=>zW,fun r hr=>absurd hr zj,fun r hr=>absurd hr zj,fun r hr=>absurd hr zj,fun k hk=> ?_,fun k hk=> ?_,by have:=hbU.size;rw [hS.o];exact this,fun k o e=>yE⟩,hbU⟩
  ·by_cases e:k=S
   ·omega
   exact absurd (if_neg e) hk
  have hl:U.heap.size=S+1:=by rw [hU.o,hS.o];simp
  exact if_neg zj
 clear hbU
 go_enter func14,ntmps14
 go_upto_region 4 with fail
 rw [<-hU.o,<-hS.o]
 clear d1 d2 d1n d2n
 go_wp2
 go_loopg [18] many (fun kx s18 wr=>∃(k:Nat) (ow:Nat->Nat) (pv:Value) (bp br d:Nat->Nat) (dv:Nat->Value) (c:Nat->Nat->Nat) (K:Nat->Rws) (st:Nat->DSt),s18= .int .i64 (k:Int)/\k<=many/\many - k<=kx/\Aside (MeshAt (fun _=>none) S wr ow k S pv (.slice none 0 0) bp br d dv c K st []/\Below S w wr/\(∀r,r<k->K r=fun _=>[])/\(∀r,r<k->st r=([],false,false,0))))
 case atStart=>exact ⟨0,_,_,_,_,_,_,_,_,_,rfl,vM _,vB _,HU.o.1,by rw [hS.o];exact HU.o.2,fun r hr=>absurd hr zj,fun r hr=>absurd hr zj⟩
 case round=>
  obtain ⟨k,ow,pv,bp,br,d,dv,c,K,st,rfl,hk,hkx,A⟩:=hrel
  clear HU
  by_cases hlt:k<many
  ·have d1:decide ((k:Int)<(many:Int))=true:=by simp;omega
   have d1n:decide (k<many)=true:=zq
   have hnp:=tI wr k zj
   obtain ⟨u,hu⟩:=zc wr
   subst hu
   go_wp2_with fail
   refine hnp.mono ?_
   clear hnp
   rintro e w1 ⟨p,r0,dd,c0,v,rfl,HP⟩
   have hm1:=A.o.1.later HP.o.below
   obtain ⟨v2,w2,hrun,hown,hgrow,hcase⟩:=dR (P:=prog) (w1.alloc (.cells #[.pointer (some ⟨p,0,none⟩)] 94)) S 90 90 94 i0 _ 1 8 underlying90 hi hz0 hz1 hz2 rfl zj pv k (kD bp k) (hm1.peers.alloc _) ⟨w1.heap.size,0,none⟩ 1 1 zj [.pointer (some ⟨p,0,none⟩)] rfl
    (Zj (cs:= #[.pointer (some ⟨p,0,none⟩)]) (t:=94) (fr:=(0,0)) (heap_alloc_new w1 _)) qW zA zj (by have:=hm1.base;rw [uD];omega)
   obtain ⟨ow',hm2,hb2⟩:=A.o.1.grow zj HP.o hown hgrow hcase rfl
   have hM1:=hm1.mesh
   have m0:=hM1.c0
   have hM2:MeshC w2 S pv (.slice none 0 0):=by
    have hk1:Keeps (fun k=>pv.ownBlock=some k) w1 w2:=((Keeps.refl _ w1).alloc _).trans ((aV hgrow).mono (fun k _ hk=>by rw [<-hk]))
    exact (hk1.block S hM1.lt (fun q=>by have:=A.o.1.op S q;rw [A.o.1.om] at this;omega)).trans hM1
   have n0:=hM2.c0
   have nf:=hM2.fz 0
   obtain ⟨g2,cp2,rfl⟩:=mw hown
   have HN:Aside (MeshAt (fun _=>none) S (w2.setCell ⟨S,0,none⟩ (.slice (some ⟨g2,0,none⟩) (k+1) cp2)) ow' (k+1) S (.slice (some ⟨g2,0,none⟩) (k+1) cp2) (.slice none 0 0) (aa bp k p) (aa br k r0) (aa d k dd) (aa dv k v) (aa c k c0) (aa K k (fun _=>[])) (aa st k ([],false,false,0)) []/\Below S w (w2.setCell ⟨S,0,none⟩ (.slice (some ⟨g2,0,none⟩) (k+1) cp2))/\(∀r,r<k+1->aa K k (fun _=>[]) r=fun _=>[])/\(∀r,r<k+1->aa st k ([],false,false,0) r=([],false,false,0))):=⟨hm2,A.o.2.1.trans hb2,fun r hr=>by
     by_cases e:r=k
     ·rw [e,au]
     ·rw [aj _ _ e];exact A.o.2.2.1 r zj,fun r hr=>by
     by_cases e:r=k
     ·rw [e,au]
     ·rw [aj _ _ e];exact A.o.2.2.2 r zj⟩
   have hpvs:∃po pc,pv= .slice po k pc:=fh A.o.1.peers
   obtain ⟨po,pc,rfl⟩:=hpvs
   clear hm1 hown hgrow hcase hm2 hb2 hM1 hM2 HP A
   go_wp2_with (at_builtin;refine Lib.wpList_append_run _ rfl _ _ _ _ rfl _ _ rfl rfl _ _ hrun ?_)
   go_roundg (many - (k+1))
   case measure=>omega
   case rel=>exact ⟨k+1,_,_,_,_,_,_,_,_,_,zw,zj,zj,HN.o⟩
  have d1:decide ((k:Int)<(many:Int))=false:=zq
  have d1n:decide (k<many)=false:=zq
  obtain rfl:k=many:=zj
  have HA:Aside (MeshAt (fun _=>none) S wr ow k S pv (.slice none 0 0) bp br d dv c K st []/\Below S w wr/\(∀r,r<k->K r=fun _=>[])/\(∀r,r<k->st r=([],false,false,0))):=A.o
  go_wp2
  go_ret2
  have hm:=HA.o.1
  refine ⟨S,rfl,K,st,⟨ow,pv,.slice none 0 0,bp,br,d,dv,c,⟨hm.few,hm.mesh,hm.om,nj hm.peers jo,hm.op,nj hm.fly jo,hm.of,hm.notes,hm.peer,fun r hr=>⟨(hm.rep r hr).1.down jo,(hm.rep r hr).2⟩,hm.disk,fun q hq=>by have:=hm.low q hq;rw [hS.o] at this;omega,hm.high,by have:=hm.base;rw [hS.o] at this;omega,hm.guard⟩⟩,by have:=HA.o.2.1;rwa [hS.o] at this,HA.o.2.2.1,HA.o.2.2.2,by rw [hS.o];exact vB _⟩
end
section
open Go.RowKit Go.Lib Go.Sort Go.Maps
open scoped Classical
theorem AB {c:Nat->Nat->Nat} (w:World) (x:Int) (h:MeshAt gd B w ow n bm pv fv bp br d dv c K st N) (hE:EnvM B ad w) (ho:(-9223372036854775808<=x/\x<=9223372036854775807)):
  Calls prog 47 #[.pointer (some ⟨bm,0,none⟩),.int .i64 x] w fun e w'=>(¬(0<=x/\x<(n:Int))/\e= .returned (.tuple #[.pointer none,eV ad 2])/\Aside (Below w.heap.size w w'))\/(∃r:Nat,r<n/\x=(r:Int)/\e= .returned (.tuple #[.pointer (some ⟨bp r,0,none⟩),.nilIface])/\w'=w):=by
 have m0:=h.mesh.c0
 obtain ⟨po,pc,hpv⟩:=fh h.peers
 have eb:=hE.t.env.op4.c1
 by_cases hin:0<=x/\x<(n:Int)
 ·obtain ⟨r,rfl⟩:∃r:Nat,x=(r:Int):=⟨x.toNat,zj⟩
  have hr:r<n:=zj
  have hcell:∃g,po=some ⟨g,0,none⟩/\w.cell? ⟨g,r,none⟩=some (.pointer (some ⟨bp r,0,none⟩)):=by
   have hp:=h.peers
   rcases hp.2 with ⟨_,q⟩ | ⟨g,cap,cur,q,_⟩
   ·omega
   rw [hpv] at q
   cases q
   refine ⟨g,rfl,?_⟩
   rw [hpv] at hp
   rw [hp.cellAt r zj,FJ bp hr]
  obtain ⟨g,rfl,r0⟩:=hcell
  have d0:decide ((r:Int)<0)=false:=zt
  have d1:decide ((n:Int)<=(r:Int))=false:=zq
  have d1n:decide (n<=r)=false:=zq
  have wk:((r:Int)).toNat=r:=zj
  have pk:(0:Int)<=(r:Int):=zj
  have bk:(r:Int)<(n:Int):=zj
  subst hpv
  clear h hE hin
  go_enter func47,ntmps47
  go_wp2
  go_ret2
  exact .inr ⟨r,hr,rfl,rfl,rfl⟩
 subst hpv
 have SD:w.drew.cell? ⟨0,0,none⟩=some (.iface 450 (.pointer (some (ad 1)))):=eb
 have HI:Aside (¬(0<=x/\x<(n:Int))):=hin
 clear h hE
 by_cases h0:x<0
 ·have d0:decide (x<0)=true:=by simp;omega
  exact kc1
 have d0:decide (x<0)=false:=zq
 have d1:decide ((n:Int)<=x)=true:=zq
 exact kc1
theorem tH {c:Nat->Nat->Nat} (w:World) (r:Nat) (hr:r<n) (h:MeshAt gd B w ow n bm pv fv bp br d dv c K st N) (hE:EnvM B ad w):
  Calls prog 18 #[.pointer (some ⟨bm,0,none⟩),.int .i64 (r:Int)] w fun e w'=>e= .returned (.tuple #[.pointer (some ⟨br r,0,none⟩),.nilIface])/\w'=w:=by
 have hf:=h.few
 have hp:=AB w (r:Int) h hE ⟨zj,zj⟩
 have p0:=(h.peer r hr).1.c0
 clear h hE
 go_enter func18,ntmps18
 go_wp2_with fail
 refine hp.mono ?_
 clear hp
 rintro e w1 (⟨q,_⟩ | ⟨r',hr',hrr,rfl,rfl⟩)
 ·exact absurd ⟨zj,zj⟩ q
 obtain rfl:r=r':=zj
 go_wp2
 go_ret2
 exact kl3
def Mg (gd:Nat->Option Obj) (B n bm i:Nat) (ad:Nat->Addr) (G:List OpX) (K:Nat->Rws) (st:Nat->DSt) (N:List ae) (P:Nat->OpX->Nat->Prop) (x:Int) (w:World) (e:Ending) (w':World):Prop:=∃(y:OpX) (cd:Nat) (G':List OpX) (K':Nat->Rws) (D':Nat->List OpX) (st':Nat->DSt) (N':List ae),e= .returned (.tuple #[bT y,eV ad cd])/\Aside (MeshS gd B n bm K' st' N' w'/\Below B w w'/\MeshI n (i+1) G' K' D' st' N'/\N'.length<=30/\(∀r,r<n->∀x∈aQ (K r),x∈aQ (K' r))/\((cd≠0/\G'=G)\/(cd=0/\G'=G++ [y]/\byO y=x/\0<=x/\x<(n:Int)))/\(∀r:Nat,x=(r:Int)->r<n->∃y0 cd0,P r y0 cd0/\(cd0=0->(st r).2.1=false->(st r).2.2.1=false->cd=0/\y=y0)/\DoX K K' st st' r y0 cd0 y cd)/\(∀r:Nat,x≠(r:Int)->K' r=K r/\st' r=st r)/\N'=N)
theorem Ir {gd:Nat->Option Obj} {B:Nat} {ad:Nat->Addr} {n bm:Nat} {K:Nat->Rws} {st:Nat->DSt} {N:List ae} {i:Nat} {G:List OpX} {D:Nat->List OpX} (w:World) (x:Int) (y:OpX) (h:MeshS gd B n bm K st N w) (hI:MeshI n i G K D st N) (hN:N.length<=30) (hE:EnvM B ad w) (hi:i<=155) (hx:(-9223372036854775808<=x/\x<=9223372036854775807)) (P:Nat->OpX->Nat->Prop) (hnx0:∀(U:World) (c0:Nat->Nat) (p b0 d0 r:Nat),r<n->x=(r:Int)->PeerC U p b0 d0->RepOwn B U c0 b0 (r:Int) (K r)->EnvM B ad U->Calls prog 270 #[.pointer (some ⟨p,0,none⟩),bT y] U (Ia ad U (K r) r (P r))):
  Calls prog 156 #[.pointer (some ⟨bm,0,none⟩),.int .i64 x,bT y] w (Mg gd B n bm i ad G K st N P x w):=by
 obtain ⟨ow,pv,fv,bp,br,d,dv,c,hm⟩:=h
 obtain ⟨t,b,m,kd,nd,o,s,v⟩:=y
 obtain ⟨S,hS⟩:=ze w.heap.size
 obtain ⟨U,hU⟩:=ze ((w.alloc (.cells #[.int .i64 t,.int .i64 b,.int .i64 m,.int .u8 (kd:Int),.int .i64 nd,.int .i64 o,.string s,.string v] 61)).alloc (.cells #[.int .i64 0,.int .i64 0,.int .i64 0,.int .u8 0,.int .i64 0,.int .i64 0,.string ⟨#[]⟩,.string ⟨#[]⟩] 61))
 have hbU:Below w.heap.size w U:=jF
 have O0:OpBlk U S (t,b,m,kd,nd,o,s,v):=by rw [hU.o,hS.o];exact (vP _ _ _ zt).trans (OpBlk.new w (t,b,m,kd,nd,o,s,v))
 have Z0:OpBlk U (S+1) aR:=by
  rw [hU.o,hS.o]
  have:=OpBlk.new (w.alloc (.cells #[.int .i64 t,.int .i64 b,.int .i64 m,.int .u8 (kd:Int),.int .i64 nd,.int .i64 o,.string s,.string v] 61)) aR
  exact kd4
 have hmU:=hm.later hbU
 have hEU:=hE.later hbU
 have hp:=AB U x hmU hEU hx
 have HM:Aside (MeshAt gd B w ow n bm pv fv bp br d dv c K st N/\MeshI n i G K D st N/\EnvM B ad w/\MeshAt gd B U ow n bm pv fv bp br d dv c K st N/\Below w.heap.size w U/\OpBlk U S (t,b,m,kd,nd,o,s,v)/\OpBlk U (S+1) aR/\EnvM B ad U/\ow (S+1)=0/\B<=S):=⟨hm,hI,hE,hmU,hbU,O0,Z0,hEU,hm.high _ (by rw [hS.o];omega),by rw [hS.o];exact hm.base⟩
 have HNX:Aside (∀(U:World) (c0:Nat->Nat) (p b0 d0 r:Nat),r<n->x=(r:Int)->PeerC U p b0 d0->RepOwn B U c0 b0 (r:Int) (K r)->EnvM B ad U->Calls prog 270 #[.pointer (some ⟨p,0,none⟩),bT (t,b,m,kd,nd,o,s,v)] U (Ia ad U (K r) r (P r))):=hnx0
 clear hm hI hE hbU O0 Z0 hmU hEU hnx0
 unfold bT
 dsimp only
 go_enter func156,ntmps156
 go_upto_region 1 with fail
 rw [<-hU.o,<-hS.o]
 go_wp2_with fail
 refine hp.mono ?_
 clear hp
 rintro e w1 (⟨q,rfl,HB⟩ | ⟨r,hr,rfl,rfl,rfl⟩)
 ·rw [lX (show (2:Nat)≠0 by omega)]
  have HQ:Aside (¬(0<=x/\x<(n:Int))):=q
  clear q
  have Z1:=HM.o.2.2.2.2.2.2.1.later HB.o
  obtain ⟨z0,z1,z2,z3,z4,z5,z6,z7,zf⟩:=Z1.cells
  unfold aR at z0 z1 z2 z3 z4 z5 z6 z7
  dsimp only at z0 z1 z2 z3 z4 z5 z6 z7
  clear Z1
  go_wp2
  (try simp only [Exit.inBlock,Exit.then])
  refine bodyPost_ret (v:=.tuple #[.agg #[.int .i64 0,.int .i64 0,.int .i64 0,.int .u8 0,.int .i64 0,.int .i64 0,.string ⟨#[]⟩,.string ⟨#[]⟩],.iface 450 (.pointer (some (ad (2 - 1))))]) ?_ rfl ?_
  ·exact kf7
  have hk7:=aZ (S+1) [.int .i64 0,.int .i64 0,.int .i64 0,.int .u8 0,.int .i64 0,.int .i64 0,.string ⟨#[]⟩,.string ⟨#[]⟩] 0 w1
  have hm1:=HM.o.2.2.2.1.later HB.o
  exact ⟨aR,2,G,K,D,st,N,rfl,⟨_,_,_,_,_,_,_,_,hm1.still hk7 (fun k e=>by have e':k=S+1:=e;rw [e'];exact HM.o.2.2.2.2.2.2.2.2.1)⟩,((HM.o.2.2.2.2.1.mono HM.o.1.base).trans (HB.o.mono HM.o.2.2.2.1.base)).trans (hk7.below hm1.base (fun k e=>xY)),HM.o.2.1.up zj,hN,fun r _ x hx=>hx,.inl ⟨zj,rfl⟩,fun r e hr=>absurd ⟨zj,zj⟩ HQ.o,fun r _=>⟨rfl,rfl⟩,rfl⟩
 have hd:=NR w1 r (t,b,m,kd,nd,o,s,v) HM.o.2.2.2.1 HM.o.2.1 HM.o.2.2.2.2.2.2.2.1 hr hi (P r) (fun W hW=>HNX.o W (c r) (bp r) (br r) (d r) r hr rfl ((HM.o.2.2.2.1.later hW).peer r hr).1 ((HM.o.2.2.2.1.later hW).rep r hr).1 (HM.o.2.2.2.2.2.2.2.1.later hW))
 unfold bT at hd
 dsimp only at hd
 obtain ⟨j0,j1,j2,j3,j4,j5,j6,j7,-⟩:=HM.o.2.2.2.2.2.1.cells
 dsimp only at j0 j1 j2 j3 j4 j5 j6 j7
 go_wp2_with fail
 refine hd.mono ?_
 clear hd j0 j1 j2 j3 j4 j5 j6 j7
 rintro e w2 ⟨⟨t',b',m',kd',nd',o',s',v'⟩,cd,G',K',D',st',rfl,H2⟩
 unfold bT
 dsimp only
 obtain ⟨ow',pv',fv',bp',br',d',dv',c',hm2,hlone⟩:=H2.o.1
 have hSl:=HM.o.2.2.2.2.2.2.1.lt
 have hS0:=hlone (S+1) hSl HM.o.2.2.2.2.2.2.2.2.1
 have Z2:OpBlk w2 (S+1) aR:=hS0.2.trans HM.o.2.2.2.2.2.2.1
 obtain ⟨z0,z1,z2,z3,z4,z5,z6,z7,zf⟩:=Z2.cells
 unfold aR at z0 z1 z2 z3 z4 z5 z6 z7
 dsimp only at z0 z1 z2 z3 z4 z5 z6 z7
 have H3:Aside (MeshAt gd B w2 ow' n bm pv' fv' bp' br' d' dv' c' K' st' N/\ow' (S+1)=0):=⟨hm2,hS0.1⟩
 obtain ⟨er,her⟩:=ze (eV ad cd)
 rw [<-her.o]
 clear hm2 hlone hSl hS0 Z2
 go_wp2
 (try simp only [Exit.inBlock,Exit.then])
 refine bodyPost_ret (v:=.tuple #[.agg #[.int .i64 t',.int .i64 b',.int .i64 m',.int .u8 (kd':Int),.int .i64 nd',.int .i64 o',.string s',.string v'],er]) ?_ rfl ?_
 ·exact kf7
 have hk7:=aZ (S+1) [.int .i64 t',.int .i64 b',.int .i64 m',.int .u8 (kd':Int),.int .i64 nd',.int .i64 o',.string s',.string v'] 0 w2
 exact ⟨(t',b',m',kd',nd',o',s',v'),cd,G',K',D',st',N,by rw [<-her.o];rfl,⟨_,_,_,_,_,_,_,_,H3.o.1.still hk7 (fun k e=>by have e':k=S+1:=e;rw [e'];exact H3.o.2)⟩,((HM.o.2.2.2.2.1.mono HM.o.1.base).trans H2.o.2.1).trans (hk7.below H3.o.1.base (fun k e=>xY)),H2.o.2.2.1,hN,H2.o.2.2.2.1,H2.o.2.2.2.2.1.imp id (fun q=>⟨q.1,q.2.1,q.2.2,zj,zj⟩),fun r' e hr'=>by obtain rfl:r=r':=zj;obtain ⟨a1,a2,a3,a4,_,a6⟩:=H2.o.2.2.2.2.2;exact ⟨a1,a2,a3,a4,a6⟩,fun r' e=>by obtain ⟨_,_,_,_,a5,_⟩:=H2.o.2.2.2.2.2;exact a5 r' (fun q=>e (by rw [q])),rfl⟩
end
section
open Go.Shelf Go.RowKit Go.Lib Go.Sort Go.Maps
open scoped Classical
def af (qs:List Plc):List Int:=0::qs.map (·.1)
def dh (A:List OpX) (qs:List Plc):Prop:=∃ms,ms.Perm (bO A)/\bQ ms/\IsPlaces (aO ms) qs
def AU (w:World) (R:Rws) (e:Ending) (w':World):Prop:=∃(g cap:Nat) (qs:List Plc),e= .returned (.slice (some ⟨g,0,none⟩) (af qs).length cap)/\Aside (NumsAt w' g 0 (af qs)/\Below w.heap.size w w'/\dh (aQ R) qs/\qs.length<=1000/\∀p∈qs,FineP p)
theorem KE {g cap:Nat} {xs:List Int} (h:w.ownsRow B 3 1 (.slice (some ⟨g,0,none⟩) xs.length cap) xs.length (aI kF xs)):NumsAt w g 0 xs:=fun i x hx=>by
 have hi:=(vA.1 hx).1
 have hf:(aI kF xs).length=xs.length:=by
  rw [bX (k:=1) (fun _=>rfl)];omega
 have:=h.cellAt i zj
 rw [vQ,this]
 have e:=cX (enc:=kF) (k:=1) (fun _=>rfl) hx (c:=0) zj
 rw [Nat.mul_one,uZ] at e
 rw [e]
 rfl
theorem Lp (w:World) (x:Int):(w.alloc (.cells #[.int .i64 x] 3)).ownsRow w.heap.size 3 1 (.slice (some ⟨w.heap.size,0,none⟩) 1 1) 1 (aI kF [x]):=
 ⟨rfl,.inr ⟨w.heap.size,1,#[.int .i64 x],rfl,vB _,heap_alloc_new w _,vB _,zA,rfl,rfl⟩⟩
theorem Hi {X:World} {S:Nat} (h:X.ownsRow S 3 1 v n xs) (hS:S<=X.heap.size) (x:Int) (hn:n<=4000):
  ∃v' w',(Builtin.append_ #[42,42] 42 #[v,.slice (some ⟨X.heap.size,0,none⟩) 1 1]).run prog (X.alloc (.cells #[.int .i64 x] 3))= .ok v' w'/\Aside (w'.ownsRow S 3 1 v' (n+1) (xs++ [.int .i64 x])/\Below S X w'/\(∀k,k<X.heap.size->v.ownBlock≠some k->w'.heap[k]? =X.heap[k]?)/\∀g,v'.ownBlock=some g->v.ownBlock=some g\/X.heap.size<=g):=by
 obtain ⟨i0,hi0,hz0,hz1,hz2⟩:=info_parts Jj
 have hb:Below X.heap.size X (X.alloc (.cells #[.int .i64 x] 3)):=zh X _
 have h':(X.alloc (.cells #[.int .i64 x] 3)).ownsRow S 3 1 v n xs:=av h (fun k hk=>hb.block k (h.lt k hk).2)
 obtain ⟨v',w',hrun,hown,hgrow,hcase⟩:=dR (P:=prog) (X.alloc (.cells #[.int .i64 x] 3)) S 42 42 3 i0 _ 1 8 underlying42 hi0 hz0 hz1 hz2 rfl zj v n xs h' ⟨X.heap.size,0,none⟩ 1 1 zj [.int .i64 x] rfl
  (Zj (cs:= #[.int .i64 x]) (t:=3) (fr:=(0,0)) (heap_alloc_new X _)) (fun u hu=>xr) zA zj (vI hS hb.size)
 refine ⟨v',w',hrun,hown,?_,fun k hk hne=> ?_,fun g hg=> ?_⟩
 ·exact (hb.mono hS).grown hgrow (vI hS hb.size) (fun k hk=>(h.lt k hk).1)
 ·rw [hgrow.block k (by rw [uD];omega) (fun q=>hne q.symm),vP _ _ _ hk]
 rcases hcase with ⟨g',cp,e1,e2⟩ | ⟨e1,_⟩
 ·left;rw [e2] at hg;rw [e1];exact hg
 right
 exact km4
theorem wu {c:Nat->Nat->Nat} (w:World) (r:Nat) (hr:r<n) (h:MeshAt gd B w ow n bm pv fv bp br d dv c K st N) (hE:EnvM B ad w) (hl:(aQ (K r)).length<=300):
  Calls prog 158 #[.pointer (some ⟨bm,0,none⟩),.int .i64 (r:Int)] w (AU w (K r)):=by
 obtain ⟨V,hV⟩:=ze (w.alloc (.cells #[.int .i64 0] 3))
 obtain ⟨q,hq⟩:=ze w.heap.size
 have hbV:Below w.heap.size w V:=by rw [hV.o];exact zh w _
 have hm:=h.later hbV
 have hrep:=tH V r hr hm (hE.later hbV)
 obtain ⟨T,kv,bt,bx,bc,A,hM,hp,_⟩:=(hm.rep r hr).1.rep
 obtain ⟨bmt,tv,ms,hTA,hms,_⟩:=hM.tree
 obtain ⟨nm,hnm,hMap⟩:=hTA.map
 have c6:=hM.cell.c6
 have HP:Aside (ms.Perm (bO (aQ (K r)))/\bQ ms/\ms.length<=300):=⟨hms.trans (hp.filterMap _),hTA.by_,by
  rw [(hms.trans (hp.filterMap _)).length_eq]
  exact vI (ZL _ _) hl⟩
 have hpl:=nT V bt bmt nm tv (aO ms) hTA.good hTA.cell hMap (by have:=HP.o.2.2;omega)
 have H0:Aside (Below w.heap.size w V/\V.ownsRow w.heap.size 3 1 (.slice (some ⟨q,0,none⟩) 1 1) 1 (aI kF [0])):=⟨hbV,by rw [hV.o,hq.o];exact Lp w 0⟩
 have ht:Calls prog 214 #[.pointer (some ⟨br r,0,none⟩)] V fun e w'=>e= .returned (.pointer (some ⟨bt,0,none⟩))/\w'=V:=by
  clear hrep hpl HP H0 hbV hm
  go_enter func214,ntmps214
  exact kb3
 have HGd:Aside (gj (aO ms)):=hTA.good
 clear hbV hm h hE hM hp hTA hms hMap c6
 go_enter func158,ntmps158
 go_upto_region 2 with fail
 rw [<-hV.o,<-hq.o]
 go_wp2_with fail
 refine hrep.mono ?_
 clear hrep
 rintro e w1 ⟨rfl,rfl⟩
 go_wp2_with fail
 refine ht.mono ?_
 clear ht
 rintro e w2 ⟨rfl,rfl⟩
 go_wp2_with fail
 refine hpl.mono ?_
 clear hpl
 rintro e w3 ⟨u,qs,rfl,hqs,hql,hu,hb3,hfr⟩
 obtain ⟨ao,cap,rfl,hPI⟩:=hu.isIn
 have hq3:qs.length<=300:=by
  obtain ⟨L',h1,h2⟩:=rG ms
  rw [hqs.unique h1]
  exact vI h2 HP.o.2.2
 have hPb:qs= []\/∃g,g≠q/\g<w3.heap.size/\∃off,ao=some ⟨g,off,none⟩/\∀j u,(aI aP qs)[j]? =some u->w3.cell? ⟨g,off+j,none⟩=some u:=by
  rcases hu with ⟨_,e⟩ | ⟨g,cp,e,hg,hc⟩
  ·exact .inl e
  right
  cases e
  refine ⟨g,?_,hg,0,rfl,fun j u hj=>xf⟩
  have h1:=hfr g rfl
  have h2:=(H0.o.2.lt q rfl).2
  omega
 have H3:Aside (IsPlaces (aO ms) qs/\(qs= []\/∃g,g≠q/\g<w3.heap.size/\∃off,ao=some ⟨g,off,none⟩/\∀j u,(aI aP qs)[j]? =some u->w3.cell? ⟨g,off+j,none⟩=some u)):=⟨hqs,hPb⟩
 have hq0:w.heap.size<=q:=by rw [hq.o];exact vB _
 have H4:Aside (Below w.heap.size w w3/\w3.ownsRow w.heap.size 3 1 (.slice (some ⟨q,0,none⟩) 1 1) 1 (aI kF [0])):=⟨zi H0.o.1 hb3,av H0.o.2 (fun k hk=>hb3.block k (H0.o.2.lt k hk).2)⟩
 clear hPI hb3 hqs hu H0 hfr hPb hql
 go_wp2
 go_loopg [5,24] qs.length (fun kx s5 s24 wr=>∃(k:Nat) (ov:Value),ov=s5/\s24= .int .i64 (k:Int)/\k<=qs.length/\qs.length - k<=kx/\Aside (Below w.heap.size w wr/\w3.heap.size<=wr.heap.size/\(∀b,b<w3.heap.size->b≠q->wr.heap[b]? =w3.heap[b]?)/\(∀b,s5.ownBlock=some b->b=q\/w3.heap.size<=b)/\wr.ownsRow w.heap.size 3 1 s5 (af (qs.take k)).length (aI kF (af (qs.take k)))))
 case atStart=>exact ⟨0,_,rfl,rfl,vM _,vB _,H4.o.1,vB _,fun _ _ _=>rfl,fun b hb=>.inl (by cases hb;rfl),by rw [List.take_zero];exact H4.o.2⟩
 case round=>
  obtain ⟨k,ov,rfl,rfl,hk,hkx,A⟩:=hrel
  clear H4
  by_cases hlt:k<qs.length
  ·have hltz:decide ((k:Int)<(qs.length:Int))=true:=by simp;omega
   have ek:((k:Int)).toNat=k:=zj
   have pk:(0:Int)<=(k:Int):=zj
   have bk:(k:Int)<(qs.length:Int):=zj
   obtain ⟨⟨nd,j,s⟩,hp⟩:∃p,Aside (qs[k]? =some p):=⟨qs[k],vF hlt⟩
   have hPI:PlsIn wr ao qs:=by
    rcases H3.o.2 with e | ⟨g,hgq,hg,o,e1,e2⟩
    ·exact .inl e
    exact .inr ⟨g,o,e1,fun j u hj=>by
     have:=e2 j u hj
     simp only [World.cell?] at this |-
     rw [A.o.2.2.1 g hg hgq]
     exact this⟩
   obtain ⟨blk,off,hao,r0,r1,r2⟩:=hPI.get hp.o
   clear hPI
   subst hao
   dsimp only at r0 r1 r2
   have hnx:af (qs.take (k+1))=af (qs.take k)++ [nd]:=by
    unfold af
    rw [uA,hp.o]
    simp
   have HL:=Lib.hid hnx
   obtain ⟨X,hX⟩:=ze (wr.alloc (.cells #[.int .i64 nd,.int .i64 j,.string s] 119))
   obtain ⟨b9,hb9⟩:=ze wr.heap.size
   have hbX:Below wr.heap.size wr X:=by rw [hX.o];exact zh wr _
   have c0:X.cell? ⟨b9,0,none⟩=some (.int .i64 nd):=by rw [hX.o,hb9.o];simp [go_sem]
   have hrowX:X.ownsRow w.heap.size 3 1 ov (af (qs.take k)).length (aI kF (af (qs.take k))):=av A.o.2.2.2.2 (fun b hb=>hbX.block b (A.o.2.2.2.2.lt b hb).2)
   obtain ⟨v',w6,hrun,HO⟩:=Hi hrowX (vI A.o.1.size hbX.size) nd (by unfold af;rw [ud,ul,vW];omega)
   clear hrowX
   have HX:Aside (Below wr.heap.size wr X):=hbX
   clear hbX hnx
   go_upto_region 8 with fail
   rw [<-hX.o,<-hb9.o]
   clear r0 r1 r2
   go_wp2_with (at_builtin;refine Lib.wpList_append_run _ rfl _ _ _ _ rfl _ _ rfl rfl _ _ hrun ?_)
   clear hrun
   go_roundg (qs.length - (k+1))
   case measure=>omega
   case rel=>
    refine ⟨k+1,_,rfl,zw,zj,vB _,(zi A.o.1 HX.o).trans HO.o.2.1,?_,fun b hb hbq=> ?_,fun b hb=> ?_,?_⟩
    ·exact vI A.o.2.1 (vI HX.o.size HO.o.2.1.size)
    ·have hbw:b<wr.heap.size:=vV hb A.o.2.1
     rw [HO.o.2.2.1 b (vV hbw HX.o.size) (fun e=>by rcases A.o.2.2.2.1 b e with q' | q';exact hbq q';omega),HX.o.block b hbw]
     exact A.o.2.2.1 b hb hbq
    ·rcases HO.o.2.2.2 b hb with q' | q'
     ·exact A.o.2.2.2.1 b q'
     exact .inr (vI A.o.2.1 (vI HX.o.size q'))
    rw [HL.o,vN,ah]
    exact HO.o.1
  have hltz:decide ((k:Int)<(qs.length:Int))=false:=zq
  obtain rfl:k=qs.length:=zj
  have hrow:=A.o.2.2.2.2
  rw [uU] at hrow
  obtain ⟨g5,cap5,hv5⟩:=mw (n:=qs.length) (by unfold af at hrow;rw [ud,ul] at hrow;exact hrow)
  subst hv5
  have HO:Aside (Below w.heap.size w wr/\NumsAt wr g5 0 (af qs)):=⟨A.o.1,KE (cap:=cap5) (by rw [show (af qs).length=qs.length+1 by simp [af]] at hrow |-;exact hrow)⟩
  clear A hrow
  go_wp2
  go_ret
  exact ⟨g5,cap5,qs,by simp [af],HO.o.2,HO.o.1,⟨ms,HP.o.1,HP.o.2.1,H3.o.1⟩,zj,fun p hp=>HGd.o.fine p.1 p ((H3.o.1.mem p).1 hp)⟩
end
section
open Go.RowKit Go.Lib Go.Sort Go.Maps
open scoped Classical
def Ol (a b:Nat) (v:Nat->Int):ae:=(a,b,true,v,none,0,[])
end
section
open Go.RowKit Go.Lib Go.Sort Go.Maps
open scoped Classical
end
section
open Go.RowKit Go.Lib Go.Sort Go.Maps
open scoped Classical
theorem MeshAt.wardOld {c:Nat->Nat->Nat} (h:MeshAt gd B w ow n bm pv fv bp br d dv c K st N) (P:Nat->Prop) (hP:∀k,P k->ow k=0/\B<=k/\k<w.heap.size):
  MeshAt (fun k=>if P k then w.heap[k]? else gd k) B w (fun k=>if P k then 5 else ow k) n bm pv fv bp br d dv c K st N:=by
 have hue:∀ {k i:Nat},ow k=i->i≠0->(if P k then 5 else ow k)=i:=fun {k i} e hi=>by
  rw [if_neg (fun q=>by have:=(hP k q).1;omega)];exact e
 refine ⟨h.few,h.mesh,hue h.om zj,h.peers,fun g hg=>hue (h.op g hg) zj,h.fly,fun g hg=>hue (h.of g hg) zj,fun x hx=>⟨(h.notes x hx).from_,(h.notes x hx).to_,(h.notes x hx).ops,fun g hg=>hue ((h.notes x hx).own g hg) zj⟩,fun r hr=>⟨(h.peer r hr).1,hue (h.peer r hr).2 zj⟩,fun r hr=>⟨(h.rep r hr).1,fun k e=>hue ((h.rep r hr).2 k e) zj⟩,fun r hr=>⟨(h.disk r hr).1,fun k e=>hue ((h.disk r hr).2 k e) zj⟩,fun k e=> ?_,fun k e=> ?_,h.base,fun k o e=> ?_⟩
 ·by_cases q:P k
  ·exact (hP k q).2.1
  rw [if_neg q] at e;exact h.low k e
 ·rw [if_neg (fun q=>by have:=(hP k q).2.2;omega)]
  exact h.high k e
 by_cases q:P k
 ·rw [if_pos q] at e |-
  exact ⟨rfl,e⟩
 rw [if_neg q] at e |-
 exact h.guard k o e
theorem MeshS.less {gd':Nat->Option Obj} (h:MeshS gd B n bm K st N w) (hg:∀k o,gd' k=some o->gd k=some o):MeshS gd' B n bm K st N w:=by
 obtain ⟨ow,pv,fv,bp,br,d,dv,c,hm⟩:=h
 exact ⟨ow,pv,fv,bp,br,d,dv,c,hm.few,hm.mesh,hm.om,hm.peers,hm.op,hm.fly,hm.of,hm.notes,hm.peer,hm.rep,hm.disk,hm.low,hm.high,hm.base,fun k o e=>hm.guard k o (hg k o e)⟩
def gdQ (gd:Nat->Option Obj) (v:Value) (w:World):Nat->Option Obj:=fun k=>if v.ownBlock=some k then w.heap[k]? else gd k
def MeshQ (gd:Nat->Option Obj) (B n bm:Nat) (K:Nat->Rws) (st:Nat->DSt) (N:List ae) (v:Value) (cs:List Int) (w:World):Prop:=
 MeshS (gdQ gd v w) B n bm K st N w/\w.ownsRow B 3 1 v cs.length (aI kF cs)/\∀k,v.ownBlock=some k->gd k=none
theorem MeshQ.bare (h:MeshS gd B n bm K st N w):MeshQ gd B n bm K st N (.slice none 0 0) [] w:=
 ⟨h.less (fun k o e=>by unfold gdQ at e;rwa [if_neg (fun q=>jd)] at e),uf _ _ _ _,fun k q=>jd⟩
theorem MeshQ.mesh (h:MeshQ gd B n bm K st N v cs w):MeshS gd B n bm K st N w:=
 h.1.less (fun k o e=>by
  unfold gdQ
  rw [if_neg (fun q=>by rw [h.2.2 k q] at e;cases e)]
  exact e)
theorem MeshQ.on {N':List ae} (h:MeshQ gd B n bm K st N v cs w) (h':MeshS (gdQ gd v w) B n bm K' st' N' w'):MeshQ gd B n bm K' st' N' v cs w':=by
 have e:∀g,v.ownBlock=some g->w'.heap[g]? =w.heap[g]? :=fun g hg=>by
  obtain ⟨o,ho⟩:=oJ h.2.1 hg
  rw [ho]
  exact h'.held (by unfold gdQ;rw [if_pos hg];exact ho)
 refine ⟨h'.less (fun k o q=> ?_),av h.2.1 e,h.2.2⟩
 unfold gdQ at q |-
 by_cases hk:v.ownBlock=some k
 ·rw [if_pos hk] at q |-;rw [<-e k hk];exact q
 rw [if_neg hk] at q |-;exact q
theorem MeshQ.more {v':Value} {cs':List Int} (h:MeshQ gd B n bm K st N v cs w) (hk:Keeps (fun k=>some k=v.ownBlock) w w') (ho:w'.ownsRow B 3 1 v' cs'.length (aI kF cs')) (hv:∀g,v'.ownBlock=some g->v.ownBlock=some g\/w.heap.size<=g):MeshQ gd B n bm K st N v' cs' w':=by
 obtain ⟨⟨ow,pv,fv,bp,br,d,dv,c,hm⟩,h3,h1⟩:=h
 have h5:∀g,v.ownBlock=some g->ow g=5:=fun g hg=>by
  obtain ⟨o,ho⟩:=oJ h3 hg
  exact (hm.guard g o (by unfold gdQ;rw [if_pos hg];exact ho)).1
 have hgn:∀k,v'.ownBlock=some k->gd k=none:=fun k hk'=>by
  rcases hv k hk' with q | q
  ·exact h1 k q
  cases e:gd k with
  | none=>rfl
  | some o=>
   have:=(hm.guard k o (by unfold gdQ;rw [if_neg (fun q'=>by rw [h1 k q'] at e;cases e)];exact e)).1
   have:=hm.high k q
   omega
 refine ⟨⟨fun k=>if v'.ownBlock=some k then 5 else ow k,pv,fv,bp,br,d,dv,c,hm.redo (hk.mono (fun k _ q=>h5 k (Eq.symm q))) (fun k e=> ?_) (fun k e=> ?_) (fun k o e=> ?_)⟩,ho,hgn⟩
 ·try dsimp only
  by_cases q:v'.ownBlock=some k
  ·rw [if_pos q]
   rcases hv k q with q' | q'
   ·exact (h5 k q').symm
   exact absurd (hm.high k q') e
  rw [if_neg q]
 ·try dsimp only at e
  by_cases q:v'.ownBlock=some k
  ·rcases hv k q with q' | q'
   ·left;rw [h5 k q'];omega
   right
   obtain ⟨o,ho'⟩:=oJ ho q
   exact ⟨q',(vD.1 ho').1⟩
  rw [if_neg q] at e
  exact .inl e
 unfold gdQ at e
 try dsimp only at e |-
 by_cases q:v'.ownBlock=some k
 ·rw [if_pos q] at e |-
  exact ⟨rfl,e⟩
 rw [if_neg q] at e |-
 have hnv:v.ownBlock≠some k\/v.ownBlock=some k:=by by_cases q':v.ownBlock=some k<;>simp [q']
 rcases hnv with q' | q'
 ·obtain ⟨e1,e2⟩:=hm.guard k o (by unfold gdQ;rw [if_neg q'];exact e)
  exact ⟨e1,(hk.block k (hm.in_ (by rw [e1];omega)) (fun q2=>q' (Eq.symm q2))).trans e2⟩
 rw [h1 k q'] at e;cases e
end
section
open Go.RowKit Go.Lib Go.Sort Go.Maps
open scoped Classical
def sJ (A:List OpX) (T:Int) (i n:Nat) (x:OpX) (a:OpX×Nat):Prop:=((kdO x=109\/kdO x=105\/kdO x=100\/kdO x=115)/\MkIs A T i n x a)\/(kdO x≠109/\kdO x≠105/\kdO x≠100/\kdO x≠115/\a=(aR,5))
end
section
open Go.RowKit Go.Lib Go.Sort Go.Maps
open scoped Classical
def MD (K K':Nat->Rws) (st st':Nat->DSt) (a:Nat) (l:List OpX) (cd:Nat):Prop:=(∃ix,aK (aQ (K a)) l (.inl (ix,cd))/\K'=K/\st'=st)\/(∃fresh R' F,aK (aQ (K a)) l (.inr fresh)/\K'=aa K a R'/\RowsK R'/\(∀x,x∈aQ R'↔x∈aQ (K a)\/x∈l)/\Jk R' (OG (K a)) F/\cd=(FI (st a) F).1/\st'=aa st a (FI (st a) F).2)
theorem KM (s:DSt) (x:OpX):(fG s x).1<=12:=by
 unfold fG
 split
 ·show mq x<=12
  exact vI (show mq x<=5 from JK x) zj
 split
 ·show 8<=12;omega
 split
 ·show 0<=12;omega
 show 11<=12;omega
def Oy (K:Nat->Rws) (st:Nat->DSt) (N:List ae) (r s:Nat) (K':Nat->Rws) (st':Nat->DSt) (N':List ae) (cd:Nat):Prop:=K'=K/\st'=st/\((N.length<30/\cd=0/\N'=N++ [Ol r s (OG (K r))])\/(30<=N.length/\cd=8/\N'=N))
def Om (K:Nat->Rws) (st:Nat->DSt) (N:List ae) (m:Nat) (K':Nat->Rws) (st':Nat->DSt) (N':List ae) (cd:Nat):Prop:=K'=K/\st'=st/\((N.length<=m/\cd=6/\N'=N)\/(m<N.length/\cd=0/\N'=N.eraseIdx m))
def Od (K:Nat->Rws) (st:Nat->DSt) (N:List ae) (m:Nat) (K':Nat->Rws) (st':Nat->DSt) (N':List ae) (cd:Nat):Prop:=K'=K/\st'=st/\((N.length<=m/\cd=6/\N'=N)\/∃x,N[m]? =some x/\((N.length<30/\cd=0/\N'=N++ [x])\/(30<=N.length/\cd=8/\N'=N)))
def On (K:Nat->Rws) (st:Nat->DSt) (N:List ae) (m:Nat) (K':Nat->Rws) (st':Nat->DSt) (N':List ae) (cd:Nat):Prop:=(N.length<=m/\cd=6/\K'=K/\st'=st/\N'=N)\/∃x:ae,N[m]? =some x/\((x.2.2.1=true/\cd=0/\K'=K/\st'=st/\∃F,Jk (K x.2.1) x.2.2.2.1 F/\(((F= []\/30<=(N.eraseIdx m).length)/\N'=N.eraseIdx m)\/(F≠ []/\(N.eraseIdx m).length<30/\∃ao cap,N'=N.eraseIdx m++ [(x.2.1,x.1,false,fun _=>0,ao,cap,F)])))\/(x.2.2.1=false/\N'=N.eraseIdx m/\MD K K' st st' x.2.1 (Mo x) cd))
theorem Mc (h:sJ A T i n x a):a.2<=12:=by
 rcases h with ⟨_,h⟩ | ⟨_,_,_,_,h⟩
 ·exact Kp h
 rw [h];show 5<=12;omega
theorem LP (h:sJ A T i n x a) (hc:a.2≠0):a.1=aR:=by
 rcases h with ⟨_,h⟩ | ⟨_,_,_,_,h⟩
 ·exact Er h hc
 rw [h]
theorem Jg {R:Rws} (hR:RowsK R) (h:sJ (aQ R) T i (R i).length x (y,0)):NextOp R i T y:=by
 rcases h with ⟨_,h⟩ | ⟨_,_,_,_,h⟩
 ·exact EM hR h
 cases h
theorem ni {qs:List Plc} (h:∀p∈qs,FineP p):∀(j:Nat) (x:Int),(af qs)[j]? =some x-> -9223372036854775808<=x/\x<=9223372036854775807:=by
 intro j x hx
 unfold af at hx
 rcases vJ.1 (vH hx) with e | e
 ·rw [e];omega
 obtain ⟨p,hpq,rfl⟩:=uh.1 e
 have k1:=(h p hpq).lo
 have k2:=(h p hpq).hi
 omega
def PX (K:Nat->Rws) (st:Nat->DSt) (N:List ae) (kd r k:Nat) (K':Nat->Rws) (st':Nat->DSt) (N':List ae) (cd:Nat):Prop:=
 (kd<=8/\N'=N/\∃qs x y T y0 cd0 yy,dh (aQ (K r)) qs/\(af qs)[k % (af qs).length]? =some x/\(af qs)[k / 8 % (af qs).length]? =some y/\dM (aQ (K r)) T/\sJ (aQ (K r)) T r (K r r).length (dN kd k x y) (y0,cd0)/\DoX K K' st st' r y0 cd0 yy cd)\/
 ((kd=9\/kd=10)/\Oy K st N r ((r+1) % 3) K' st' N' cd)\/(kd=11/\Oy K st N r ((r+2) % 3) K' st' N' cd)\/(kd=12/\On K st N (k % 4) K' st' N' cd)\/(kd=13/\k % 2=1/\Od K st N (k / 2 % 4) K' st' N' cd)\/(kd=13/\k % 2=0/\Om K st N (k / 2 % 4) K' st' N' cd)\/
 (kd=14/\K'=K/\N'=N/\cd=OB (st r).2.1 ((k % 200:Nat):Int)/\st'=aa st r (Nz (st r) ((k % 200:Nat):Int)))\/(kd=15/\cd=0/\N'=N/\OO K K' st st' r)
end
section
open Go.RowKit Go.Lib Go.Sort Go.Maps
open scoped Classical
def Ox (kd r k:Nat):Obj:=.cells #[.int .i64 (kd:Int),.int .i64 (r:Int),.int .i64 (k:Int)] 170 (0,0)
def KP (gd:Nat->Option Obj) (B bm i:Nat) (ad:Nat->Addr) (K:Nat->Rws) (st:Nat->DSt) (N:List ae) (kd r k:Nat) (w:World) (e:Ending) (w':World):Prop:=∃(cd:Nat) (G':List OpX) (K':Nat->Rws) (D':Nat->List OpX) (st':Nat->DSt) (N':List ae),e= .returned (eV ad cd)/\Aside (MeshS gd B 3 bm K' st' N' w'/\Below B w w'/\MeshI 3 (i+1) G' K' D' st' N'/\N'.length<=30)/\Aside (cd<=12/\PX K st N kd r k K' st' N' cd)
theorem MeshS.bare_of {q:Nat} (hq:gd q=none) (h:MeshS (fun k=>if k=q then some o else gd k) B n bm K st N w):MeshS gd B n bm K st N w:=
 h.free (q:=q) (o:=o) (if_pos rfl) (Keeps.refl _ w) (fun k u e=>by
  have hk:k≠q:=fun e'=>by rw [e',hq] at e;cases e
  exact ⟨(if_neg hk).trans e,hk⟩)
theorem rJ (w:World) (r:Nat) (hr:r<n) (h:MeshS gd B n bm K st N w) (hE:EnvM B ad w) (hl:(aQ (K r)).length<=300):
  Calls prog 158 #[.pointer (some ⟨bm,0,none⟩),.int .i64 (r:Int)] w (AU w (K r)):=by
 obtain ⟨ow,pv,fv,bp,br,d,dv,c,hm⟩:=h
 exact wu w r hr hm hE hl
theorem Me {y0:OpX} {cd0 cd a:Nat} (h:sJ A T i n x (y0,cd0)) (hd:DoX K K' st st' a y0 cd0 y cd):cd<=12:=by
 have h1:=Mc h
 rcases hd with ⟨_,e,_⟩ | ⟨_,_,e,_⟩ | ⟨_,_,e,_⟩
 ·rw [e];exact h1
 ·rw [e];exact KM _ _
 rw [e];omega
