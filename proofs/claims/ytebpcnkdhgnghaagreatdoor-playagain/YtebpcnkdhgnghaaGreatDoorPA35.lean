import Derived.Test.YtebpcnkdhgnghaaGreatDoorPA33
set_option linter.unusedSimpArgs false
set_option linter.unusedVariables false
set_option maxRecDepth 100000
set_option maxHeartbeats 64000000
namespace Go.Proofs.YtebpcnkdhgnghaaGreatDoor
open Go.Proofs.Tryz
variable {s s':DSt} {N:List aO} {F G l ys:List OpX} {B cap k:Nat} {ad:Nat→Addr} {y:OpX} {ao:Option Addr} {P:Program} {R:Rws} {w:World}
section
open Go.RowKit Go.Lib Go.Sort Go.Maps
open scoped Classical
theorem DF (hR:RowsK R) (hs:cA (aX R) 0 [] l= .inr F) (h1:∀x∈aX R,x∈G) (h2:∀x∈l,x∈G):(aX R).length+F.length<=G.length:=by
 obtain ⟨hF,g2,_,_,_⟩:=co (dK _) hs
 have n2:(aX R++F).Nodup:=by
  exact kg6
 have:=dD n2 (H:=G) (fun x hx=>by
  rcases jO.1 hx with q | q
  ·exact h1 x q
  ·rcases g2 x q with p | p
   ·simp at p
   ·exact h2 x p)
 rwa [jP] at this
theorem Hp (hR:RowsK R) {a:(Int×Nat)⊕List OpX} (hone:∀x∈G,∀y∈G,byO x=byO y->ah x=ah y->x=y) (hok:∀x∈G,bY x=0) (h1:∀x∈aX R,x∈G) (h2:∀x∈l,x∈G) (hlen:(aX R).length+l.length<=400) (hj:cX (aX R) l a):(∃cd,cd≠0/\a= .inl (-1,cd)/\¬KF G (aX R) l)\/∃fresh,a= .inr fresh/\∀x,x∈aX R++fresh↔x∈aX R\/x∈l:=by
 have hnf:∀ {cd:Nat},a= .inl (-1,cd)->¬KF G (aX R) l:=fun {cd} e ⟨T,t1,t2,t3,t4⟩=>by
  obtain ⟨fresh,q,_⟩:=sX hR t1 (fun x hx y hy=>hone x (h1 x hx) y (t2 y hy)) t3 t4 hlen
  have:=q a hj
  rw [e] at this
  cases this
 obtain ⟨out,s1,s2⟩:=iD (S:=aX R) (T:=G) (fun x hx y hy=>hone x (h1 x hx) y (h1 y hy)) hone (fun x hx y hy=>hone x (h1 x hx) y hy) hok (l:=l) 0 (fresh:=[]) h2 (fun x hx=>zP)
 obtain ⟨g1,g2,g3,g4,g5⟩:=co (dK _) s1
 have hj':=hj
 unfold cX at hj'
 rw [s1] at hj'
 dsimp only at hj'
 rcases hj' with ⟨_,e⟩ | ⟨_,_,e⟩ | ⟨_,_,_,e⟩ | ⟨_,_,e⟩ | ⟨_,_,e⟩
 ·exact .inl ⟨9,zj,e,hnf e⟩
 ·exact .inl ⟨3,zj,e,hnf e⟩
 ·exact .inl ⟨6,zj,e,hnf e⟩
 ·exact .inl ⟨8,zj,e,hnf e⟩
 refine .inr ⟨out,e,fun x=> ?_⟩
 rw [jO]
 constructor
 ·rintro (q | q)
  ·exact .inl q
  rcases g2 x q with p | p
  ·simp at p
  exact .inr p
 rintro (q | q)
 ·exact .inl q
 exact g4 x q
def Jo (G:List OpX) (K K':Nat->Rws) (a:Nat) (l:List OpX):Prop:=(∀r,r≠a->K' r=K r)/\(∀x∈aX (K a),x∈aX (K' a))/\(∀x∈aX (K' a),x∈aX (K a)\/x∈l)/\(KF G (aX (K a)) l->∀x∈l,x∈aX (K' a))
def dS:DSt->List OpX->Nat×DSt
 | s,[]=>(0,s)
 | s,y::ys=>if (dW s y).1=0 then dS (dW s y).2 ys else dW s y
theorem DA (h:dW s y=(0,s')):dS s (y::ys)=dS s' ys:=by
 show (if (dW s y).1=0 then dS (dW s y).2 ys else dW s y)=_
 rw [h];rfl
theorem pu {cd:Nat} (h:dW s y=(cd,s')) (hc:cd≠0):dS s (y::ys)=(cd,s'):=by
 show (if (dW s y).1=0 then dS (dW s y).2 ys else dW s y)=_
 rw [h];exact if_neg hc
def fX (R:Rws) (u:Nat->Int) (F:List OpX):Prop:=∃ys,ae (aX R) ys/\F=ys.filter (fun x=> !du u x)
def Ed (ad:Nat->Addr) (K K':Nat->Rws) (st st':Nat->DSt) (a:Nat) (l:List OpX) (v:Value):Prop:=(∃ix cd,cX (aX (K a)) l (.inl (ix,cd))/\cd≠0/\v=eV ad cd/\K'=K/\st'=st)\/(∃fresh R' F,cX (aX (K a)) l (.inr fresh)/\K'=aN K a R'/\RowsK R'/\(∀x,x∈aX R'↔x∈aX (K a)\/x∈l)/\fX R' (dY (K a)) F/\v=eV ad (dS (st a) F).1/\st'=aN st a (dS (st a) F).2)
def Hu (gd:Nat->Option Obj) (B n bm i:Nat) (ad:Nat->Addr) (G:List OpX) (K:Nat->Rws) (st:Nat->DSt) (N:List aO) (a:Nat) (l:List OpX) (w:World) (e:Ending) (w':World):Prop:=∃(v:Value) (K':Nat->Rws) (D':Nat->List OpX) (st':Nat->DSt),e= .returned v/\Aside (MeshS gd B n bm K' st' N w'/\Below B w w'/\MeshI n i G K' D' st' N/\Jo G K K' a l/\(KF G (aX (K a)) l->(st a).2.1=false->(st a).2.2.1=false->v= .nilIface)/\Ed ad K K' st st' a l v)
theorem rb (w:World) (c:Nat->Nat) (br:Nat) (by_:Int) (R:Rws) (u:Nat->Int) (h:RepAt w c br by_ R) (hn:(aX R).length<=1000):
  Calls prog 88 #[.pointer (some ⟨br,0,none⟩),.agg #[.int .i64 (u 0),.int .i64 (u 1),.int .i64 (u 2),.int .i64 (u 3)]] w fun e w'=>∃ao cap F,e= .returned (.slice ao F.length cap)/\Aside ((∃ys,ae (aX R) ys/\F=ys.filter (fun x=> !du u x))/\OpsAt w' (.slice ao F.length cap) F/\(F≠ []->∀g,(Value.slice ao F.length cap).ownBlock=some g->w.heap.size<=g/\g<w'.heap.size)/\Below w.heap.size w w'):=by
 refine (Eo w c br by_ R u h hn).mono ?_
 rintro e w' ⟨val,ys,he,h2,h1,h3⟩
 rcases h1 with ⟨rfl,rfl⟩ | ⟨gb,cp,rfl,hg,hO⟩
 ·exact ⟨none,0,[],he,⟨[],h2,rfl⟩,.inl ⟨rfl,rfl⟩,fun q=>absurd rfl q,h3⟩
 refine ⟨_,cp,_,he,⟨ys,h2,rfl⟩,.inr ⟨gb,0,cp,rfl,fun j u hj=> ?_⟩,fun hne g hg'=> ?_,h3⟩
 ·rw [vh]
  exact hO.cell j u hj
 cases hg'
 refine ⟨hg,?_⟩
 cases hF:ys.filter (fun x=> !du u x) with
 | nil=>exact absurd hF hne
 | cons y t=>
  have:=hO.cell 0 (.int .i64 y.1) (by rw [hF];rfl)
  exact jR w' ⟨gb,0,none⟩ this
theorem JE (h:OpsAt w (.slice ao F.length cap) F):OpsIn w ao F:=by
 rcases h with ⟨_,q⟩ | ⟨b,o,cp,q1,q2⟩
 ·exact .inl q
 exact kj1
theorem Fp (h:OpsAt w (.slice ao F.length cap) F) {x:OpX} (hk:F[k]? =some x):∃blk off,ao=some ⟨blk,off,none⟩/\NJ w blk (off+k*8) x.1 x.2.1 x.2.2.1 x.2.2.2.1 x.2.2.2.2.1 x.2.2.2.2.2.1 x.2.2.2.2.2.2.1 x.2.2.2.2.2.2.2:=by
 have hi:=(jI.1 hk).1
 rcases JE h with rfl | ⟨blk,off,rfl,hc⟩
 ·simp at hi
 obtain ⟨t,b,n,kd,nd,o,s,v⟩:=x
 refine ⟨blk,off,rfl,Hz hc k hi ?_⟩
 rw [getElem!_pos F k hi]
 exact (jI.1 hk).2
theorem Ct {gd:Nat->Option Obj} {ow:Nat->Nat} {n bm:Nat} {pv fv:Value} {bp br d:Nat->Nat} {dv:Nat->Value} {c:Nat->Nat->Nat} {K:Nat->Rws} {st:Nat->DSt} {i:Nat} {D:Nat->List OpX} (w:World) (a:Nat) (la:Option Addr) (lc:Nat) (l:List OpX) (h:MeshAt gd B w ow n bm pv fv bp br d dv c K st N) (hI:MeshI n i G K D st N) (hE:EnvM B ad w) (ha:a<n) (hi:i<=155) (hin:OpsIn w la l) (hl:∀x∈l,x∈G) (hll:l.length<=200):
  Calls prog 87 #[.pointer (some ⟨bp a,0,none⟩),.slice la l.length lc] w (Hu gd B n bm i ad G K st N a l w):=by
 have ha4:a<4:=jW ha h.few
 have hla:=hI.len ha
 have p0:=(h.peer a ha).1.c0
 have hvec:=lF w (c a) (br a) (a:Int) (K a) (h.rep a ha).1.rep zj
 have HM:Aside (MeshAt gd B w ow n bm pv fv bp br d dv c K st N/\MeshI n i G K D st N/\EnvM B ad w/\OpsIn w la l/\∀x∈l,x∈G):=⟨h,hI,hE,hin,hl⟩
 clear h hI hE hin hl
 go_enter func87,ntmps87
 go_wp2_with fail
 refine hvec.mono ?_
 clear hvec p0
 rintro e w1 ⟨rfl,hb1⟩
 obtain ⟨U,hU⟩:=ze (w1.alloc (.cells #[.int .i64 (dY (K a) 0),.int .i64 (dY (K a) 1),.int .i64 (dY (K a) 2),.int .i64 (dY (K a) 3)] 141))
 obtain ⟨P,hP⟩:=ze w1.heap.size
 have hbU:Below w.heap.size w U:=by rw [hU.o];exact hb1.alloc hb1.size _
 have VU:VecBlk U P (dY (K a)):=by rw [hU.o,hP.o];exact heap_alloc_new w1 _
 have hmU:=HM.o.1.later hbU
 have hPo:ow P=0:=HM.o.1.high P (by rw [hP.o];exact hb1.size)
 have p0:=(hmU.peer a ha).1.c0
 have hjn:=pD U (c a) (br a) (a:Int) (K a) la lc l (hmU.rep a ha).1 (HM.o.2.2.1.later hbU).t.env (HM.o.2.2.2.1.later hbU) (lV (fun x hx=>HM.o.2.1.inv.ok x (HM.o.2.2.2.2 x hx))) zj zj (fun F hF=>by
  have:=DF (HM.o.2.1.rows a ha) hF (HM.o.2.1.inv.sub a ha) HM.o.2.2.2.2
  have:=HM.o.2.1.inv.len
  omega)
 have HU:Aside (MeshAt gd B U ow n bm pv fv bp br d dv c K st N/\VecBlk U P (dY (K a))/\Below w.heap.size w U/\ow P=0):=⟨hmU,VU,hbU,hPo⟩
 clear hb1 hbU VU hmU hPo
 go_upto_region 2 with fail
 rw [show ((K a 0).length:Int)=dY (K a) 0 from rfl,show ((K a 1).length:Int)=dY (K a) 1 from rfl,show ((K a 2).length:Int)=dY (K a) 2 from rfl,show ((K a 3).length:Int)=dY (K a) 3 from rfl,<-hU.o,<-hP.o]
 go_wp2_with fail
 refine hjn.mono ?_
 clear hjn p0
 rintro e w2 ⟨ja,c',hj,hA,hm⟩
 rcases Hp (HM.o.2.1.rows a ha) HM.o.2.1.inv.one HM.o.2.1.inv.ok (HM.o.2.1.inv.sub a ha) HM.o.2.2.2.2 zj hj with ⟨cd,hcd,rfl,hnf⟩ | ⟨fresh,rfl,hfr⟩
 ·obtain ⟨hR,jv,rfl,hv⟩:=hm
  obtain rfl:jv=eV ad cd:=by
   rcases hv with ⟨_,q,_⟩ | ⟨q,_⟩
   ·exact q
   omega
  obtain ⟨hm2,hk2⟩:=HU.o.1.repAct ha hA hR
  have H2:Aside (MeshS gd B n bm K st N w2/\Below B w w2/\¬KF G (aX (K a)) l/\cX (aX (K a)) l (.inl (-1,cd))/\cd≠0):=⟨⟨_,_,_,_,_,_,_,_,by rw [fm] at hm2;exact hm2⟩,(HU.o.2.2.1.mono HM.o.1.base).trans (HU.o.1.below hk2 (fun k e=>by have e':ow k=10+a:=e;omega)),hnf,hj,hcd⟩
  rw [aw hcd]
  clear hm2 hk2 hA hR hv hnf hj hcd
  go_wp2
  go_ret
  exact ⟨_,K,D,st,rfl,H2.o.1,H2.o.2.1,HM.o.2.1,⟨fun _ _=>rfl,fun x hx=>hx,fun x hx=>.inl hx,fun q=>absurd q H2.o.2.2.1⟩,fun q=>absurd q H2.o.2.2.1,.inl ⟨_,_,H2.o.2.2.2.1,H2.o.2.2.2.2,by rw [aw H2.o.2.2.2.2];rfl,rfl,rfl⟩⟩
 obtain ⟨rfl,R',hR,hmem0⟩:=hm
 obtain ⟨hm2,hk2⟩:=HU.o.1.repAct ha hA hR
 have hmem:∀x,x∈aX R'↔x∈aX (K a)\/x∈l:=fun x=>(hmem0 x).trans (hfr x)
 have HJ:Aside (cX (aX (K a)) l (.inr fresh)):=hj
 have hV2:VecBlk w2 P (dY (K a)):=(hk2.block P HU.o.2.1.lt (fun q=>by have q':ow P=10+a:=q;rw [HU.o.2.2.2] at q';omega)).trans HU.o.2.1
 obtain ⟨ow2,how2⟩:∃f,Aside (f=aD ow U w2 (10+a)):=⟨_,rfl⟩
 rw [<-how2.o] at hm2
 have hP2:ow2 P=0:=by rw [how2.o,bT HU.o.2.1.lt];exact HU.o.2.2.2
 have hm3:=hm2.later (jN _ w2).drew
 have hrl:(aX R').length<=155:=by
  have:=dD hR.wellK.num.nodup (H:=G) (fun x hx=>((hmem x).1 hx).elim (HM.o.2.1.inv.sub a ha x) (HM.o.2.2.2.2 x))
  have:=HM.o.2.1.inv.len
  omega
 have hdf:=rb w2.drew _ (br a) (a:Int) R' (dY (K a)) (by have:=(hm3.rep a ha).1.rep;rw [aR,aR] at this;exact this) zj
 have H2:Aside (MeshAt gd B w2.drew ow2 n bm pv fv bp br d dv (aN c a c') (aN K a R') st N/\Below B w w2.drew/\RowsK R'/\(∀x,x∈aX R'↔x∈aX (K a)\/x∈l)/\ow2 P=0):=⟨hm3,((HU.o.2.2.1.mono HM.o.1.base).trans (HU.o.1.below hk2 (fun k e=>by have e':ow k=10+a:=e;omega))).drew,hR.wellK,hmem,hP2⟩
 have SD:PeerC w2.drew (bp a) (br a) (d a)/\VecBlk w2.drew P (dY (K a)):=⟨(hm3.peer a ha).1,hV2⟩
 clear hm2 hk2 hA hR hj hfr hmem0 hmem hV2 hP2 hm3 hrl
 go_upto_region 5 with fail
 refine aM (S:=(fun w'=>PeerC w' (bp a) (br a) (d a)/\VecBlk w' P (dY (K a)))) zk SD (fun hHeld=> ?_)
 refine tk 0 hHeld ?_
 refine tk 1 hHeld ?_
 refine tk 2 hHeld ?_
 refine tk 3 hHeld ?_ (hy:=Or.inl ⟨zt,zB⟩)
 refine tk 4 hHeld ?_ (hy:=Or.inl ⟨zt,by intro w' hSw;have q0:=hSw.2.at (i:=0) zj;have q1:=hSw.2.at (i:=1) zj;have q2:=hSw.2.at (i:=2) zj;have q3:=hSw.2.at (i:=3) zj;clear hSw;go_simp;try with_reducible rfl⟩)
 refine tk 7 hHeld ?_
 refine aZ (i:=5) zk rfl (fun kQ hK=> ?_)
 go_simp
 refine hdf.mono ?_
 clear hdf
 rintro e w3 ⟨ao,cap,F,rfl,H3⟩
 have S3:PeerC w3 (bp a) (br a) (d a)/\VecBlk w3 P (dY (K a)):=⟨SD.1.same (H3.o.2.2.2.block _ SD.1.lt),SD.2.later H3.o.2.2.2⟩
 have hHeld:=S3
 refine hK _ _ S3 ?_
 clear hK kQ SD
 refine qn ?_
 refine aZ (i:=6) zk rfl (fun kQ hK=> ?_)
 go_simp
 refine hK _ _ S3 ?_
 clear hK kQ
 refine wpAnyH_done zk ?_ _
 refine qn ?_
 clear S3 hHeld
 have hFd:kL F/\F.Nodup/\∀x,x∈F↔x∈aX R'/\x∉aX (K a):=by
  obtain ⟨ys,y1,y2⟩:=H3.o.1
  rw [y2]
  exact pP (HM.o.2.1.rows a ha) H2.o.2.2.1 (fun x hx y hy=>H2.o.2.2.1.well.one x ((H2.o.2.2.2.1 x).2 (.inl hx)) y hy) y1
 have hFl:F.length<=155:=by
  have:=dD hFd.2.1 (H:=G) (fun x hx=>(((H2.o.2.2.2.1 x).1 ((hFd.2.2 x).1 hx).1)).elim (HM.o.2.1.inv.sub a ha x) (HM.o.2.2.2.2 x))
  have:=HM.o.2.1.inv.len
  omega
 obtain ⟨hm3,hown3⟩:=H2.o.1.lend H3.o.2.2.2
 obtain ⟨ow3,how3⟩:∃f,Aside (f=aD ow2 w2.drew w3 4):=⟨_,rfl⟩
 rw [<-how3.o] at hm3 hown3
 have H4:Aside (MeshAt gd B w3 ow3 n bm pv fv bp br d (aN dv a (dv a)) (aN c a c') (aN K a R') (aN st a (st a)) N/\DiskI (st a) (D a++F.take 0)/\OpsAt w3 (.slice ao F.length cap) F/\(F≠ []->∀g,(Value.slice ao F.length cap).ownBlock=some g->ow3 g=4)/\Below B w w3):=⟨by rw [fm,fm];exact hm3,by rw [List.take_zero,vZ];exact HM.o.2.1.disk a ha,H3.o.2.1,fun hne g hg=>hown3 g (H3.o.2.2.1 hne g hg).1 (H3.o.2.2.1 hne g hg).2,H2.o.2.1.trans (H3.o.2.2.2.mono H2.o.1.base)⟩
 have HF:Aside (kL F/\F.Nodup/\∀x,x∈F↔x∈aX R'/\x∉aX (K a)):=hFd
 have HDF:Aside (fX R' (dY (K a)) F):=H3.o.1
 clear hFd hm3 hown3 H3
 go_wp2
 go_loopg [35] F.length (fun kx s35 wr=>∃(k:Nat) (s:DSt) (ow':Nat->Nat) (v':Value),s35= .int .i64 (k:Int)/\k<=F.length/\F.length - k<=kx/\Aside (MeshAt gd B wr ow' n bm pv fv bp br d (aN dv a v') (aN c a c') (aN K a R') (aN st a s) N/\DiskI s (D a++F.take k)/\s.2.1=(st a).2.1/\((st a).2.1=true->k=0)/\((st a).2.1=false->(st a).2.2.1=false->s.2.2.1=false)/\OpsAt wr (.slice ao F.length cap) F/\(F≠ []->∀g,(Value.slice ao F.length cap).ownBlock=some g->ow' g=4)/\Below B w wr)/\Aside (dS (st a) F=dS s (F.drop k)))
 case atStart=>exact ⟨0,st a,ow3,dv a,rfl,jX _,jL _,⟨H4.o.1,H4.o.2.1,rfl,fun _=>rfl,fun _ q=>q,H4.o.2.2.1,H4.o.2.2.2.1,H4.o.2.2.2.2⟩,rfl⟩
 case round=>
  obtain ⟨k,s0,ow',v',rfl,hk,hkx,A,AP⟩:=hrel
  clear H4
  by_cases hlt:k<F.length
  ·have d1:decide ((k:Int)<(F.length:Int))=true:=by simp;omega
   have wk:((k:Int)).toNat=k:=zj
   have pk:(0:Int)<=(k:Int):=zj
   have bk:(k:Int)<(F.length:Int):=zj
   obtain ⟨⟨t,b,m,kd,nd,o,s,v⟩,hx⟩:∃x,Aside (F[k]? =some x):=⟨F[k],jK hlt⟩
   obtain ⟨x,hxe⟩:∃x:OpX,Aside (x=(t,b,m,kd,nd,o,s,v)):=⟨_,rfl⟩
   have HDR:Aside (F.drop k=x::F.drop (k+1)):=by
    have e:=un hlt
    have e2:F[k]=x:=by
     have:=hx.o
     rw [jK hlt,<-hxe.o] at this
     exact Option.some.inj this
    show F.drop k=_
    rw [e,e2]
   have hFn:F≠ []:=fun q=>by rw [q] at hlt;simp at hlt
   have hxF:x∈F:=by rw [hxe.o];exact jT hx.o
   have hxo:bY x=0:=H2.o.2.2.1.well.ok x ((HF.o.2.2 x).1 hxF).1
   obtain ⟨b1,o1,e1,E1⟩:=Fp A.o.2.2.2.2.2.1 hx.o
   dsimp only at E1
   subst e1
   obtain ⟨q0,q1,q2,q3,q4,q5,q6,q7⟩:=E1
   obtain ⟨U2,hU2⟩:=ze (wr.alloc (.cells #[.int .i64 t,.int .i64 b,.int .i64 m,.int .u8 (kd:Int),.int .i64 nd,.int .i64 o,.string s,.string v] 61))
   obtain ⟨Q,hQ⟩:=ze wr.heap.size
   have hbU2:Below wr.heap.size wr U2.drew:=by rw [hU2.o];exact (zh wr _).drew
   have OX:OpBlk U2.drew Q x:=by rw [hU2.o,hQ.o,hxe.o];exact OpBlk.new wr (t,b,m,kd,nd,o,s,v)
   have hm5:=A.o.1.later hbU2
   have hQo:ow' Q=0:=A.o.1.high Q (by rw [hQ.o];exact jL _)
   have hdk:=hm5.disk a ha
   rw [aR,aR] at hdk
   have hsz:=lV (l:=[x]) (fun z hz=>by rw [jS.1 hz];exact hxo) x zq
   have hDl:(D a++F.take k).length<=320:=by have:=HM.o.2.1.dlen ha;rw [jP,vj];omega
   have happ:=nJ U2.drew x hdk.1 ((HM.o.2.2.1.mono A.o.2.2.2.2.2.2.2).later hbU2).j (fun j hj=>hm5.low j (by rw [hdk.2 j hj];omega)) hsz.1 hsz.2 (by have:=A.o.2.1.len;omega)
   have hst:=A.o.2.1.app hdk.1.left.1 hDl hxo
   obtain ⟨cd2,s2,hcs⟩:∃cd2 s2,Aside (dW s0 x=(cd2,s2)):=⟨(dW s0 x).1,(dW s0 x).2,rfl⟩
   rw [hcs.o] at happ hst
   dsimp only at happ hst
   have hfree:s0.2.1=false->s0.2.2.1=false->cd2=0/\s2.2.2.1=false:=fun f1 f2=>by
    have hB0:=A.o.2.1.len
    have htx:=fg hxo
    have hrl:=bB (aA x)
    have hc:=hcs.o
    obtain ⟨B0,off0,wt0,lf0⟩:=s0
    dsimp only at f1 f2 hB0
    subst f1
    subst f2
    rw [lU hxo zj] at hc
    cases hc
    exact ki0
   have HST:Aside (((cd2=0/\s0.2.1=false/\s2.2.1=false/\DiskI s2 ((D a++F.take k)++ [x]))\/(cd2=11/\s2.2.1=true/\DiskI s2 (D a++F.take k)))/\(s0.2.1=false->s0.2.2.1=false->cd2=0/\s2.2.2.1=false)):=⟨hst,hfree⟩
   have HA:Aside (MeshAt gd B U2.drew ow' n bm pv fv bp br d (aN dv a v') (aN c a c') (aN K a R') (aN st a s0) N/\s0.2.1=(st a).2.1/\((st a).2.1=true->k=0)/\((st a).2.1=false->(st a).2.2.1=false->s0.2.2.1=false)/\OpsAt U2.drew (.slice (some ⟨b1,o1,none⟩) F.length cap) F/\(∀g,(Value.slice (some ⟨b1,o1,none⟩) F.length cap).ownBlock=some g->ow' g=4)/\Below B w U2.drew/\OpBlk U2.drew Q x/\ow' Q=0):=⟨hm5,A.o.2.2.1,A.o.2.2.2.1,A.o.2.2.2.2.1,A.o.2.2.2.2.2.1.later hbU2,A.o.2.2.2.2.2.2.1 hFn,A.o.2.2.2.2.2.2.2.trans (hbU2.mono A.o.1.base),OX,hQo⟩
   have SD:PeerC U2.drew (bp a) (br a) (d a)/\OpBlk U2.drew Q x:=⟨(hm5.peer a ha).1,OX⟩
   rw [hxe.o] at happ
   unfold tg at happ
   dsimp only at happ
   clear hbU2 OX hm5 hQo hdk hsz hDl hst hfree A hxF hxo
   obtain ⟨u0,hu0⟩:=za wr
   subst hu0
   go_upto_region 8 with fail
   rw [<-hU2.o,<-hQ.o]
   clear q0 q1 q2 q3 q4 q5 q6 q7
   refine aM (S:=(fun w'=>PeerC w' (bp a) (br a) (d a)/\OpBlk w' Q x)) zk SD (fun hHeld=> ?_)
   refine tk 0 hHeld ?_
   refine tk 1 hHeld ?_
   refine tk 2 hHeld ?_
   refine tk 3 hHeld ?_ (hy:=Or.inl ⟨zt,qr⟩)
   refine tk 4 hHeld ?_ (hy:=Or.inl ⟨zt,by intro w' hSw;have q2:=hSw.2;rw [hxe.o] at q2;obtain ⟨q0,q1,q2,q3,q4,q5,q6,q7,-⟩:=OpBlk.cells q2;dsimp only at q0 q1 q2 q3 q4 q5 q6 q7;clear hSw;go_simp;try with_reducible rfl⟩)
   refine aZ (i:=5) zk rfl (fun kQ hK=> ?_)
   go_simp
   refine happ.mono ?_
   clear happ
   rintro e w5 ⟨rfl,H5⟩
   obtain ⟨dv5,hm5,hk5⟩:=HA.o.1.diskAct (st':=s2) ha (by rw [aR];exact H5.o)
   have S5:PeerC w5 (bp a) (br a) (d a)/\OpBlk w5 Q x:=⟨(hm5.peer a ha).1,(hk5.block Q HA.o.2.2.2.2.2.2.2.1.lt (fun q=>by have q':ow' Q=20+a:=q;rw [HA.o.2.2.2.2.2.2.2.2] at q';omega)).trans HA.o.2.2.2.2.2.2.2.1⟩
   have hss:∀ {α:Type} (f:Nat->α) (x y:α),aN (aN f a x) a y=aN f a y:=fun f x y=>by funext r;unfold aN;split<;>rfl
   rw [hss,hss] at hm5
   have hin4:∀g,(Value.slice (some ⟨b1,o1,none⟩) F.length cap).ownBlock=some g->g<U2.drew.heap.size:=fun g hg=>HA.o.1.in_ (by rw [HA.o.2.2.2.2.2.1 g hg];omega)
   have H6:Aside (MeshAt gd B w5 (aD ow' U2.drew w5 (20+a)) n bm pv fv bp br d (aN dv a dv5) (aN c a c') (aN K a R') (aN st a s2) N/\OpsAt w5 (.slice (some ⟨b1,o1,none⟩) F.length cap) F/\(∀g,(Value.slice (some ⟨b1,o1,none⟩) F.length cap).ownBlock=some g->aD ow' U2.drew w5 (20+a) g=4)/\Below B w w5):=⟨hm5,bg HA.o.2.2.2.2.1 (fun g hg=>hk5.block g (hin4 g hg) (fun q=>by have q':ow' g=20+a:=q;rw [HA.o.2.2.2.2.2.1 g hg] at q';omega)),fun g hg=>(bT (hin4 g hg)).trans (HA.o.2.2.2.2.2.1 g hg),HA.o.2.2.2.2.2.2.1.trans (HA.o.1.below hk5 (fun k e=>by have e':ow' k=20+a:=e;omega))⟩
   refine hK _ _ S5 ?_
   clear hK kQ hm5 hk5 SD hss hin4 H5
   refine qn ?_
   refine aZ (i:=6) zk rfl (fun kQ hK=> ?_)
   go_simp
   refine hK _ _ S5 ?_
   clear hK kQ
   refine wpAnyH_done zk ?_ _
   refine qn ?_
   clear S5 hHeld
   rcases HST.o.1 with ⟨rfl,hon,hso,hdi⟩ | ⟨rfl,hso,hdi⟩
   ·have HD:Aside (s0.2.1=false/\s2.2.1=false/\DiskI s2 (D a++F.take (k+1))):=⟨hon,hso,by
     have e:F.take (k+1)=F.take k++ [x]:=by rw [hxe.o,vV,hx.o];rfl
     rw [e,<-vn]
     exact hdi⟩
    clear hon hso hdi
    rw [show eV ad 0= .nilIface from rfl]
    go_wp2
    go_roundg (F.length - (k+1))
    case measure=>omega
    case rel=>exact ⟨k+1,s2,_,dv5,zI,zj,jL _,⟨H6.o.1,HD.o.2.2,by rw [HD.o.2.1,<-HD.o.1,HA.o.2.1],fun q=>(by rw [<-HA.o.2.1,HD.o.1] at q;cases q),fun f1 f2=>(HST.o.2 (by rw [HA.o.2.1];exact f1) (HA.o.2.2.2.1 f1 f2)).2,H6.o.2.1,fun _=>H6.o.2.2.1,H6.o.2.2.2⟩,by
     show dS (st a) F=dS s2 (F.drop (k+1))
     rw [AP.o,HDR.o,DA hcs.o]⟩
   have HD:Aside (s2.2.1=true/\DiskI s2 (D a++F.take k)):=⟨hso,hdi⟩
   clear hso hdi
   rw [aw (show (11:Nat)≠0 by omega)]
   go_wp2
   go_ret
   refine ⟨_,aN K a R',aN D a (D a++F.take k),aN st a s2,rfl,⟨_,_,_,_,_,_,_,_,H6.o.1⟩,H6.o.2.2.2,HM.o.2.1.heard ha HM.o.2.2.2.2 H2.o.2.2.2.1 H2.o.2.2.1 HF.o.1 HF.o.2.1 HF.o.2.2 HA.o.2.2.1 (fun q=>by rw [HD.o.1] at q;cases q) HD.o.2,⟨fun r hr=>aK _ _ hr,fun x hx=>by rw [aR];exact (H2.o.2.2.2.1 x).2 (.inl hx),fun x hx=>by rw [aR] at hx;exact (H2.o.2.2.2.1 x).1 hx,fun _ x hx=>xA⟩,fun _ f1 f2=> ?_,.inr ⟨fresh,R',F,HJ.o,rfl,H2.o.2.2.1,H2.o.2.2.2.1,HDF.o,by rw [AP.o,HDR.o,pu hcs.o zj,aw (show (11:Nat)≠0 by omega)];rfl,by rw [AP.o,HDR.o,pu hcs.o zj]⟩⟩
   have:=(HST.o.2 (by rw [HA.o.2.1];exact f1) (HA.o.2.2.2.1 f1 f2)).1
   omega
  have d1:decide ((k:Int)<(F.length:Int))=false:=zl
  obtain rfl:k=F.length:=zj
  have HA:Aside (_):=A.o
  go_wp2
  go_ret
  exact ⟨_,aN K a R',aN D a (D a++F.take F.length),aN st a s0,rfl,⟨_,_,_,_,_,_,_,_,HA.o.1⟩,HA.o.2.2.2.2.2.2.2,HM.o.2.1.heard ha HM.o.2.2.2.2 H2.o.2.2.2.1 H2.o.2.2.1 HF.o.1 HF.o.2.1 HF.o.2.2 HA.o.2.2.2.1 (fun q=>⟨by rw [<-HA.o.2.2.1];exact q,jL _⟩) HA.o.2.1,⟨fun r hr=>aK _ _ hr,fun x hx=>by rw [aR];exact (H2.o.2.2.2.1 x).2 (.inl hx),fun x hx=>by rw [aR] at hx;exact (H2.o.2.2.2.1 x).1 hx,fun _ x hx=>xA⟩,fun _ _ _=>rfl,.inr ⟨fresh,R',F,HJ.o,rfl,H2.o.2.2.1,H2.o.2.2.2.1,HDF.o,by rw [AP.o,List.drop_length];rfl,by rw [AP.o,List.drop_length];rfl⟩⟩
end
section
open Go.RowKit Go.Lib Go.Sort Go.Maps
open scoped Classical
theorem Ge (g n cap k:Nat) (w:World) (h:k<=cap):(Instr.slice 91 (.slice (some ⟨g,0,none⟩) n cap) none (some (.int .i64 (k:Int))) none).run prog w= .ok (.slice (some ⟨g,0,none⟩) k cap) w:=by
 exact km5
theorem Gw (g n cap k:Nat) (h:k+1<=n) (hc:n<=cap):∃a:Addr,(k+1<cap->a=⟨g,(k+1)*8,none⟩)/\∀w:World,(Instr.slice 91 (.slice (some ⟨g,0,none⟩) n cap) (some (.int .i64 ((k:Int)+1))) none none).run prog w= .ok (.slice (some a) (n - (k+1)) (cap - (k+1))) w:=by
 have h1:(k:Int)+1<=(n:Int):=zj
 have h2:(n:Int)<=(cap:Int):=zj
 have h0:(0:Int)<=(k:Int)+1:=zj
 have tk:((k:Int)+1).toNat=k+1:=zj
 by_cases e:k+1=cap
 ·refine ⟨⟨g,0,none⟩,fun q=>zj,fun w=> ?_⟩
  subst e
  have en:n=k+1:=zj
  subst en
  go_simp
 have e1:¬(cap=k+1):=fun q=>e q.symm
 have e2:¬(cap - (k+1)=0):=zj
 refine ⟨⟨g,(k+1)*8,none⟩,fun _=>rfl,fun w=> ?_⟩
 go_simp
theorem Ks (g n cap k:Nat) (h:k+1<=n) (hc:n<=cap):∃V:Value,∀w:World,(Instr.slice 91 (.slice (some ⟨g,0,none⟩) n cap) (some (.int .i64 (k:Int))) (some (.int .i64 ((k:Int)+1))) (some (.int .i64 (n:Int)))).run prog w= .ok V w:=by
 have h1:(k:Int)+1<=(n:Int):=zj
 have h2:(n:Int)<=(cap:Int):=zj
 have h0:(0:Int)<=(k:Int):=zj
 have h3:(k:Int)<=(k:Int)+1:=zj
 have tk:((k:Int)+1).toNat=k+1:=zj
 have e2:¬(n - k=0):=zj
 have e3:¬(n=k):=zj
 refine ⟨.slice (some ⟨g,k*8,none⟩) 1 (n - k),fun w=> ?_⟩
 go_simp
theorem Ls (g m cap:Nat) (hc:m+1<=cap) (w:World):(Instr.slice 91 (.slice (some ⟨g,0,none⟩) m cap) (some (.int .i64 (m:Int))) (some (.int .i64 ((m:Int)+1))) none).run prog w= .ok (.slice (some ⟨g,m*8,none⟩) 1 (cap - m)) w:=by
 have h1:(m:Int)+1<=(cap:Int):=zj
 have h0:(0:Int)<=(m:Int):=zj
 have h3:(m:Int)<=(m:Int)+1:=zj
 have tk:((m:Int)+1).toNat=m+1:=zj
 have e2:¬(cap - m=0):=zj
 have e3:¬(cap=m):=zj
 go_simp
theorem Nr:∀w:World,(zeroValue 175).run prog w= .ok (.agg #[.int .i64 0,.int .i64 0,.bool false,.int .i64 0,.int .i64 0,.int .i64 0,.int .i64 0,.slice none 0 0]) w:=fun w=>by
 go_simp
theorem NS:(Value.agg #[.int .i64 0,.int .i64 0,.bool false,.int .i64 0,.int .i64 0,.int .i64 0,.int .i64 0,.slice none 0 0]).cells.size=8:=rfl
theorem Jy:(Builtin.zeroCells (Value.agg #[.int .i64 0,.int .i64 0,.bool false,.int .i64 0,.int .i64 0,.int .i64 0,.int .i64 0,.slice none 0 0]).cells 1).toList= [.int .i64 0,.int .i64 0,.bool false,.int .i64 0,.int .i64 0,.int .i64 0,.int .i64 0,.slice none 0 0]:=by
 simp [Builtin.zeroCells,Value.cells]
 rfl
theorem GE (hk:k<N.length) {cur:Array Value} (hc:N.length<=cap) (hcs:cur.size=cap*8) (ht:cur.toList.take (N.length*8)=aB bD N):
  aB bD (N.take k)=cur.toList.take (k*8)/\(cur.toList.take (k*8)++aB bD (N.drop (k+1))++cur.toList.drop (k*8+(aB bD (N.drop (k+1))).length)).length=cap*8/\∀j u,(aB bD (N.drop (k+1)))[j]? =some u->cur[(k+1)*8+j]? =some u:=by
 have hl:(aB bD (N.drop (k+1))).length=(N.length - (k+1))*8:=by rw [aa bw,vx]
 have hcl:cur.toList.length=cap*8:=by rw [vN,hcs]
 refine ⟨?_,?_,fun j u hj=> ?_⟩
 ·rw [<-mz bw N k zj,<-ht,uR]
  congr 1
  omega
 ·simp only [jP,vj,vx,hl,hcl]
  omega
 have hj':=hj
 rw [<-eO bw N (k+1) zj,<-ht,vW,uf] at hj
 split at hj
 ·rw [<-Zb];exact hj
 cases hj
theorem LK (w:World) (v:Value) (N:List aO) (k:Nat) (hrow:w.ownsRow B 175 8 v N.length (aB bD N)) (hk:k<N.length) (hlen:N.length<=1000):
  Calls prog 160 #[v,.int .i64 (k:Int),.int .i64 ((k:Int)+1)] w fun e w'=>∃v',e= .returned v'/\Aside (w'.ownsRow B 175 8 v' (N.eraseIdx k).length (aB bD (N.eraseIdx k))/\Keeps (fun j=>some j=v.ownBlock) w w'/\v'.ownBlock=v.ownBlock):=by
 obtain ⟨i0,hi,hz0,hz1,hz2⟩:=info_parts Jb
 rcases hrow.2 with ⟨_,q⟩ | ⟨g,cap,cur,rfl,hBg,hg,hnc,hcm,hcs,htake⟩
 ·omega
 obtain ⟨r1,r2,r3⟩:=GE hk hnc hcs htake
 obtain ⟨V1,hs1⟩:=Ks g N.length cap k zj hnc
 have hs2:=fun W=>Ge g N.length cap k W zj
 obtain ⟨a3,ha3,hs3⟩:=Gw g N.length cap k zj hnc
 obtain ⟨m,hm⟩:∃m,N.length=m+1:=⟨N.length - 1,zj⟩
 have hrun:=run_append_room (P:=prog) w.drew 91 91 175 i0 underlying91 hi g k cap cur hg a3 (N.length - (k+1)) (cap - (k+1)) (aB bD (N.drop (k+1))) (by rw [aa bw,vx,hz1]) (fun j u hj=>by
   have hjl:=(jI.1 hj).1
   rw [aa bw,vx] at hjl
   rw [ha3 zj,Addr.add_lit]
   show w.cell? ⟨g,(k+1)*8+j,none⟩=some u
   have:=r3 j u hj
   unfold World.cell?
   dsimp only
   rw [hg]
   exact this) (lS rS _) zj (by rw [hz1,aa bw,vx,hcs];omega)
 rw [hz1] at hrun
 obtain ⟨X,hX⟩:=ze (w.drew.setRow g (cur.toList.take (k*8)++aB bD (N.drop (k+1))++cur.toList.drop (k*8+(aB bD (N.drop (k+1))).length)).toArray)
 rw [<-hX.o] at hrun
 have em:k+(N.length - (k+1))=m:=zj
 rw [em] at hrun
 have hgX:X.heap[g]? =some (.cells (cur.toList.take (k*8)++aB bD (N.drop (k+1))++cur.toList.drop (k*8+(aB bD (N.drop (k+1))).length)).toArray 175 (0,0)):=by rw [hX.o];exact setRow_heap w.drew g cur _ _ _ hg
 have hkX:Keeps (fun j=>j=g) w X:=by rw [hX.o];exact ⟨rfl,rfl,rfl,zq,fun j _ hj=>setRow_other w.drew g j _ hj⟩
 have hs4:=fun W=>Ls g m cap zj W
 have hmc:(m+1)*8<=cap*8:=zj
 have hclr:∀ty,(Builtin.clear_ #[91] ty #[.slice (some ⟨g,m*8,none⟩) 1 (cap - m)]).run prog X= .ok (.tuple #[]) (X.setCells g (m*8) [.int .i64 0,.int .i64 0,.bool false,.int .i64 0,.int .i64 0,.int .i64 0,.int .i64 0,.slice none 0 0]):=fun ty=>by
  have h:=fO (P:=prog) X 91 175 ty _ underlying91 Nr g (m*8) 1 (cap - m) zj (by rw [Jy];simp [Value.oneCell']) (fun j hj=>by
   rw [NS] at hj
   unfold World.cell?
   dsimp only
   rw [hgX]
   simp only [List.getElem?_toArray]
   rw [uG]
   exact ⟨_,jK (by rw [r2];omega)⟩) (fun j hj=>by simp [World.frozen?,hgX])
  rw [Jy] at h
  exact h
 have HF:Aside ((X.setCells g (m*8) [.int .i64 0,.int .i64 0,.bool false,.int .i64 0,.int .i64 0,.int .i64 0,.int .i64 0,.slice none 0 0]).ownsRow B 175 8 (.slice (some ⟨g,0,none⟩) m cap) (N.eraseIdx k).length (aB bD (N.eraseIdx k))/\Keeps (fun j=>some j=some g) w (X.setCells g (m*8) [.int .i64 0,.int .i64 0,.bool false,.int .i64 0,.int .i64 0,.int .i64 0,.int .i64 0,.slice none 0 0])):=by
  have hel:(N.eraseIdx k).length=m:=ju
  have hef:aB bD (N.eraseIdx k)=cur.toList.take (k*8)++aB bD (N.drop (k+1)):=by
   rw [List.eraseIdx_eq_take_drop_succ,<-r1]
   simp [aB]
  have hl:(cur.toList.take (k*8)++aB bD (N.drop (k+1))).length=m*8:=by
   rw [<-hef,aa bw,hel]
  refine ⟨?_,hkX.then (aY g _ (m*8) X) (fun j _ e=>e) |>.mono (fun j _ e=>by have e':j=g:=e;rw [e'])⟩
  rw [hel,hef]
  refine ⟨hl,.inr ⟨g,cap,_,rfl,hBg,ag g _ (m*8) X _ _ hgX,zj,hcm,?_,?_⟩⟩
  ·rw [dG]
   simpa using r2
  obtain ⟨C1,C2,hC,hC1⟩:∃C1 C2,cur.toList.drop (k*8+(aB bD (N.drop (k+1))).length)=C1++C2/\C1.length=8:=by
   refine ⟨(cur.toList.drop (k*8+(aB bD (N.drop (k+1))).length)).take 8,(cur.toList.drop (k*8+(aB bD (N.drop (k+1))).length)).drop 8,(vA 8 _).symm,?_⟩
   rw [vj,vx,vN,hcs,aa bw,vx]
   omega
  have ho:=dC [.int .i64 0,.int .i64 0,.bool false,.int .i64 0,.int .i64 0,.int .i64 0,.int .i64 0,.slice none 0 0] (cur.toList.take (k*8)++aB bD (N.drop (k+1))) C1 C2 (cur.toList.take (k*8)++aB bD (N.drop (k+1))++cur.toList.drop (k*8+(aB bD (N.drop (k+1))).length)).toArray (by rw [hC];simp) (by rw [hC1];rfl)
  rw [hl] at ho
  rw [ho,vn,vv (Nat.le_of_eq hl.symm),vm (Nat.le_of_eq hl)]
 have pk:(0:Int)<=(k:Int):=zj
 have dne:((k:Int)==(k:Int)+1)=false:=zM
 have dnd:decide ((k:Int)=(k:Int)+1)=false:=zJ
 have HN:Aside (N.length=m+1):=hm
 rw [hm] at hs1 hs2 hs3 hrun
 rw [show ((m+1:Nat):Int)=(m:Int)+1 by omega] at hs1
 rw [hm]
 rw [show m+1 - (k+1)=m - k by omega] at hs3 hrun
 have HCC:Aside (m+1<=cap/\k<m+1):=⟨zj,zj⟩
 clear hrow hBg hg hnc hcm hcs htake r1 r2 r3 ha3 hgX hkX hmc em hm hlen hk
 go_enter func160,ntmps160
 go_upto_region 5 with fail
 refine aM (S:=(fun _=>True)) zk trivial (fun hHeld=> ?_)
 refine tk 0 hHeld ?_
 refine tk 1 hHeld ?_
 refine tk 2 hHeld ?_
 refine tk 3 hHeld ?_
 refine tk 4 hHeld ?_
 refine tk 5 hHeld ?_
 refine aZ (i:=6) zk rfl (fun kQ hK=> ?_)
 simp only [ud,ux,uy]
 refine Lib.wp_append_run _ _ _ _ _ rfl (.slice (some ⟨g,0,none⟩) k cap) (.slice (some a3) (m - k) (cap - (k+1))) ?ahs ?ahx _ X hrun ?_
 case ahs=>rfl
 case ahx=>rfl
 refine hK _ _ trivial ?_
 clear hK kQ
 refine qn ?_
 refine aZ (i:=7) zk rfl (fun kQ hK=> ?_)
 go_simp
 refine hK _ _ trivial ?_
 clear hK kQ
 refine wpAnyH_done zk ?_ _
 refine qn ?_
 clear hrun hs1 hs2 hs3
 go_wp2
 go_ret
 exact ⟨_,rfl,HF.o.1,HF.o.2,rfl⟩
end
section
open Go.ChangeShapes Go.WideShapes Go.ChangeAt Go.RowKit Go.Joins Go.ChangeMaps
theorem dA {P:Program} {w:World} :∀(l1 l2:List (String×DataW Unit)) (ps:List MemPlace),DataW.LaidVars P w (l1++l2) ps->∃q1 q2,DataW.LaidVars P w l1 q1/\DataW.LaidVars P w l2 q2/\ps=q1++q2
 | [],l2,ps,h=>⟨[],ps,rfl,h,rfl⟩
 | x::l1,l2,ps,h=>by
  obtain ⟨g,t,cs,fuel,p,q,a1,a2,a3,a4,a5,rfl⟩:=h
  obtain ⟨q1,q2,b1,b2,rfl⟩:=dA l1 l2 q a5
  exact ⟨_,q2,⟨g,t,cs,fuel,p,q1,a1,a2,a3,a4,b1,rfl⟩,b2,zq⟩
theorem ro (l1 l2 l3:List (String×DataW Unit)) (h:laidMet P (l1++(l2++l3)) w):laidMet P l2 w:=by
 obtain ⟨ps,hv,hnd,hr⟩:=h
 obtain ⟨q1,q2,-,b,rfl⟩:=dA l1 (l2++l3) ps hv
 obtain ⟨q3,q4,c,-,rfl⟩:=dA l2 l3 q2 b
 exact ⟨q3,c,(vM.1 (vM.1 hnd).2.1).1,fun b off hm=>hr b off (vB _ (vg _ hm))⟩
theorem Errs.at {ad':Nat->Addr} (h:Errs B ad w) (e:∀i,i<12->ad' i=ad i):Errs B ad' w:=by
 refine ⟨?_,?_,?_,?_,?_,?_,?_,?_,?_,?_,?_,?_,h.et,fun i hi=>by rw [e i hi];exact h.lt i hi,fun i hi=>by rw [e i hi];exact h.row i hi,fun i j hi hj hne=>by rw [e i hi,e j hj];exact h.ne i j hi hj hne,h.big,h.size⟩
 ·rw [e 0 zj];exact h.c0
 ·rw [e 1 zj];exact h.c1
 ·rw [e 2 zj];exact h.c2
 ·rw [e 3 zj];exact h.c3
 ·rw [e 4 zj];exact h.c4
 ·rw [e 5 zj];exact h.c5
 ·rw [e 6 zj];exact h.c6
 ·rw [e 7 zj];exact h.c7
 ·rw [e 8 zj];exact h.c8
 ·rw [e 9 zj];exact h.c9
 ·rw [e 10 zj];exact h.c10
 rw [e 11 zj];exact h.c11
def oL:List (String×DataW Unit):=[("math/bits.deBruijn32tab",Rows.laid_math_bits_deBruijn32tab),("math/bits.deBruijn64tab",Rows.laid_math_bits_deBruijn64tab),("internal/strconv.uint64pow10",Rows.laid_internal_strconv_uint64pow10),("unicode/utf8.acceptRanges",Rows.laid_unicode_utf8_acceptRanges)]++(gl++ [("unicode/utf8.first",Rows.laid_unicode_utf8_first)])
theorem Lv {W:World} (h:laidMet prog oL W) (h2:handlesMet prog io W) (hsh:W.ShapedOpen prog):∃ad:Nat->Addr,EnvM W.heap.size ad W/\Errs W.heap.size ad W:=by
 have hmid:laidMet prog gl W:=ro _ gl _ h
 obtain ⟨ad0,hE0⟩:=Lm hmid h2
 obtain ⟨m,hm⟩:=Tryz.laysM147.s1_3 W hsh
 have hp:("internal/strconv.uint64pow10",Rows.laid_internal_strconv_uint64pow10)∈oL:=.tail _ (.tail _ (.head _))
 have hq:("math/bits.deBruijn64tab",Rows.laid_math_bits_deBruijn64tab)∈oL:=.tail _ (.head _)
 have ht:=Mg (Lib.laidMet.reads h hp)
 obtain ⟨ad,hE,hc⟩:∃ad:Nat->Addr,Errs W.heap.size ad W/\Cyc ad:=⟨fun i=>if i=100 then ⟨1,0,none⟩ else ad0 i,hE0.at (fun i hi=>if_neg zj),rfl⟩
 exact ⟨ad,⟨⟨⟨⟨hE.c1,hE.c2,hE.c3,hE.c4⟩,hE.c5,hE.c6,hE.c7,hE.c8,fun _=>hE.c9,hE.big,jL _⟩,Lib.tabBelow_of_tabIs ht⟩,
  LG ⟨⟨⟨hE.c1,hE.c2,hE.c3,hE.c4⟩,ht⟩,⟨hE.c1,hE.c2,hE.c7,hE.c10⟩,MC (Lib.laidMet.reads h hq),hE.c0,m,hm⟩,hc⟩,hE⟩
