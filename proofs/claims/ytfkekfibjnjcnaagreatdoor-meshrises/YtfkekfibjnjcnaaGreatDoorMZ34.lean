import Derived.Test.YtfkekfibjnjcnaaGreatDoorMZ32
set_option linter.unusedSimpArgs false
set_option linter.unusedVariables false
set_option maxRecDepth 100000
set_option maxHeartbeats 64000000
namespace Go.Proofs.YtfkekfibjnjcnaaGreatDoor
open Go.Proofs.Tryz
variable {N:List NoteX} {F G l:List OpX} {B bm cap k n:Nat} {st:Nat→DSt} {bp br d ow:Nat→Nat} {gd:Nat→Option Obj} {K:Nat→Rws} {dv:Nat→Value} {ao:Option Addr} {R:Rws} {fv pv v:Value} {w:World}
section
open Go.RowKit Go.Lib Go.Sort Go.Maps
open scoped Classical
theorem fresh_len (hR:RowsK R) (hs:siftS (allR R) 0 [] l= .inr F) (h1:∀x∈allR R,x∈G) (h2:∀x∈l,x∈G):(allR R).length+F.length<=G.length:=by
 obtain ⟨hF,g2,_,_,_⟩:=sift_fresh (freshK_nil _) hs
 have n2:(allR R++F).Nodup:=by
  rw [uf]
  refine ⟨hR.num.nodup,hF.one.imp (fun {a b} h e=>h (by rw [e];exact ⟨rfl,rfl⟩)),fun a ha b hb e=> ?_⟩
  subst e
  exact hF.off a hb a ha ⟨rfl,rfl⟩
 have:=len_sub n2 (H:=G) (fun x hx=>by
  rcases vv.1 hx with q | q
  ·exact h1 x q
  ·rcases g2 x q with p | p
   ·simp at p
   ·exact h2 x p)
 rwa [vw] at this
theorem join_two (hR:RowsK R) {a:(Int×Nat)⊕List OpX} (hone:∀x∈G,∀y∈G,byO x=byO y->numO x=numO y->x=y) (hok:∀x∈G,errO x=0) (h1:∀x∈allR R,x∈G) (h2:∀x∈l,x∈G) (hlen:(allR R).length+l.length<=400) (hj:JoinIs (allR R) l a):(∃cd,cd≠0/\a= .inl (-1,cd)/\¬Fits G (allR R) l)\/∃fresh,a= .inr fresh/\∀x,x∈allR R++fresh↔x∈allR R\/x∈l:=by
 have hnf:∀ {cd:Nat},a= .inl (-1,cd)->¬Fits G (allR R) l:=fun {cd} e ⟨T,t1,t2,t3,t4⟩=>by
  obtain ⟨fresh,q,_⟩:=join_part hR t1 (fun x hx y hy=>hone x (h1 x hx) y (t2 y hy)) t3 t4 hlen
  have:=q a hj
  rw [e] at this
  cases this
 obtain ⟨out,s1,s2⟩:=sift_fine (S:=allR R) (T:=G) (fun x hx y hy=>hone x (h1 x hx) y (h1 y hy)) hone (fun x hx y hy=>hone x (h1 x hx) y hy) hok (l:=l) 0 (fresh:=[]) h2 (fun x hx=>zO)
 obtain ⟨g1,g2,g3,g4,g5⟩:=sift_fresh (freshK_nil _) s1
 have hj':=hj
 unfold JoinIs at hj'
 rw [s1] at hj'
 dsimp only at hj'
 rcases hj' with ⟨_,e⟩ | ⟨_,_,e⟩ | ⟨_,_,_,e⟩ | ⟨_,_,e⟩ | ⟨_,_,e⟩
 ·exact .inl ⟨9,zj,e,hnf e⟩
 ·exact .inl ⟨3,zj,e,hnf e⟩
 ·exact .inl ⟨6,zj,e,hnf e⟩
 ·exact .inl ⟨8,zj,e,hnf e⟩
 refine .inr ⟨out,e,fun x=> ?_⟩
 rw [vv]
 constructor
 ·rintro (q | q)
  ·exact .inl q
  rcases g2 x q with p | p
  ·simp at p
  exact .inr p
 rintro (q | q)
 ·exact .inl q
 exact g4 x q
def HeardM (G:List OpX) (K K':Nat->Rws) (a:Nat) (l:List OpX):Prop:=(∀r,r≠a->K' r=K r)/\(∀x∈allR (K a),x∈allR (K' a))/\(∀x∈allR (K' a),x∈allR (K a)\/x∈l)/\(Fits G (allR (K a)) l->∀x∈l,x∈allR (K' a))
def LearnOut (gd:Nat->Option Obj) (B n bm i:Nat) (G:List OpX) (K:Nat->Rws) (st:Nat->DSt) (N:List NoteX) (a:Nat) (l:List OpX) (w:World) (e:Ending) (w':World):Prop:=∃(v:Value) (K':Nat->Rws) (D':Nat->List OpX) (st':Nat->DSt),e= .returned v/\Aside (MeshS gd B n bm K' st' N w'/\Below B w w'/\MeshI n i G K' D' st' N/\HeardM G K K' a l/\(Fits G (allR (K a)) l->(st a).2.1=false->(st a).2.2.1=false->v= .nilIface))
theorem pdiff_any (w:World) (c:Nat->Nat) (br:Nat) (by_:Int) (R:Rws) (u:Nat->Int) (h:RepAt w c br by_ R) (hn:(allR R).length<=1000):
  Calls prog 36 #[.pointer (some ⟨br,0,none⟩),.agg #[.int .i64 (u 0),.int .i64 (u 1),.int .i64 (u 2),.int .i64 (u 3)]] w fun e w'=>∃ao cap F,e= .returned (.slice ao F.length cap)/\Aside ((∃ys,StableOf (allR R) ys/\F=ys.filter (fun x=> !heldV u x))/\OpsAt w' (.slice ao F.length cap) F/\(F≠ []->∀g,(Value.slice ao F.length cap).ownBlock=some g->w.heap.size<=g/\g<w'.heap.size)/\Below w.heap.size w w'):=by
 refine (rdiff_any w c br by_ R u h hn).mono ?_
 rintro e w' ⟨val,ys,he,h2,h1,h3⟩
 rcases h1 with ⟨rfl,rfl⟩ | ⟨gb,cp,rfl,hg,hO⟩
 ·exact ⟨none,0,[],he,⟨[],h2,rfl⟩,.inl ⟨rfl,rfl⟩,fun q=>absurd rfl q,h3⟩
 refine ⟨_,cp,_,he,⟨ys,h2,rfl⟩,.inr ⟨gb,0,cp,rfl,fun j u hj=> ?_⟩,fun hne g hg'=> ?_,h3⟩
 ·rw [vO]
  exact hO.cell j u hj
 cases hg'
 refine ⟨hg,?_⟩
 cases hF:ys.filter (fun x=> !heldV u x) with
 | nil=>exact absurd hF hne
 | cons y t=>
  have:=hO.cell 0 (.int .i64 y.1) (by rw [hF];rfl)
  exact vp w' ⟨gb,0,none⟩ this
theorem opsInM (h:OpsAt w (.slice ao F.length cap) F):OpsIn w ao F:=by
 rcases h with ⟨_,q⟩ | ⟨b,o,cp,q1,q2⟩
 ·exact .inl q
 exact .inr ⟨b,o,(Value.slice.inj q1).1,q2⟩
theorem opsAt_one (h:OpsAt w (.slice ao F.length cap) F) {x:OpX} (hk:F[k]? =some x):∃blk off,ao=some ⟨blk,off,none⟩/\Eight w blk (off+k*8) x.1 x.2.1 x.2.2.1 x.2.2.2.1 x.2.2.2.2.1 x.2.2.2.2.2.1 x.2.2.2.2.2.2.1 x.2.2.2.2.2.2.2:=by
 have hi:=(vi.1 hk).1
 rcases opsInM h with rfl | ⟨blk,off,rfl,hc⟩
 ·simp at hi
 obtain ⟨t,b,n,kd,nd,o,s,v⟩:=x
 refine ⟨blk,off,rfl,eight_at hc k hi ?_⟩
 rw [getElem!_pos F k hi]
 exact (vi.1 hk).2
theorem plearn_any {ad:Nat->Addr} {c:Nat->Nat->Nat} {i:Nat} {D:Nat->List OpX} (w:World) (a:Nat) (la:Option Addr) (lc:Nat) (l:List OpX) (h:MeshAt gd B w ow n bm pv fv bp br d dv c K st N) (hI:MeshI n i G K D st N) (hE:EnvM B ad w) (ha:a<n) (hi:i<=125) (hin:OpsIn w la l) (hl:∀x∈l,x∈G) (hll:l.length<=200):
  Calls prog 35 #[.pointer (some ⟨bp a,0,none⟩),.slice la l.length lc] w (LearnOut gd B n bm i G K st N a l w):=by
 have ha4:a<4:=vJ ha h.few
 have hla:=hI.len ha
 have p0:=(h.peer a ha).1.c0
 have hvec:=rvector_any w (c a) (br a) (a:Int) (K a) (h.rep a ha).1.rep zj
 have HM:Aside (MeshAt gd B w ow n bm pv fv bp br d dv c K st N/\MeshI n i G K D st N/\EnvM B ad w/\OpsIn w la l/\∀x∈l,x∈G):=⟨h,hI,hE,hin,hl⟩
 clear h hI hE hin hl
 go_enter func35,ntmps35
 go_wp2_with fail
 refine hvec.mono ?_
 clear hvec p0
 rintro e w1 ⟨rfl,hb1⟩
 obtain ⟨U,hU⟩:=ze (w1.alloc (.cells #[.int .i64 (vecR (K a) 0),.int .i64 (vecR (K a) 1),.int .i64 (vecR (K a) 2),.int .i64 (vecR (K a) 3)] 32))
 obtain ⟨P,hP⟩:=ze w1.heap.size
 have hbU:Below w.heap.size w U:=by rw [hU.o];exact hb1.alloc hb1.size _
 have VU:VecBlk U P (vecR (K a)):=by rw [hU.o,hP.o];exact heap_alloc_new w1 _
 have hmU:=HM.o.1.later hbU
 have hPo:ow P=0:=HM.o.1.high P (by rw [hP.o];exact hb1.size)
 have p0:=(hmU.peer a ha).1.c0
 have hjn:=join_wide U (c a) (br a) (a:Int) (K a) la lc l (hmU.rep a ha).1 (HM.o.2.2.1.later hbU).t.env (HM.o.2.2.2.1.later hbU) (sized_ok (fun x hx=>HM.o.2.1.inv.ok x (HM.o.2.2.2.2 x hx))) zj zj (fun F hF=>by
  have:=fresh_len (HM.o.2.1.rows a ha) hF (HM.o.2.1.inv.sub a ha) HM.o.2.2.2.2
  have:=HM.o.2.1.inv.len
  omega)
 have HU:Aside (MeshAt gd B U ow n bm pv fv bp br d dv c K st N/\VecBlk U P (vecR (K a))/\Below w.heap.size w U/\ow P=0):=⟨hmU,VU,hbU,hPo⟩
 clear hb1 hbU VU hmU hPo
 go_upto_region 2 with fail
 rw [show ((K a 0).length:Int)=vecR (K a) 0 from rfl,show ((K a 1).length:Int)=vecR (K a) 1 from rfl,show ((K a 2).length:Int)=vecR (K a) 2 from rfl,show ((K a 3).length:Int)=vecR (K a) 3 from rfl,<-hU.o,<-hP.o]
 go_wp2_with fail
 refine hjn.mono ?_
 clear hjn p0
 rintro e w2 ⟨ja,c',hj,hA,hm⟩
 rcases join_two (HM.o.2.1.rows a ha) HM.o.2.1.inv.one HM.o.2.1.inv.ok (HM.o.2.1.inv.sub a ha) HM.o.2.2.2.2 zj hj with ⟨cd,hcd,rfl,hnf⟩ | ⟨fresh,rfl,hfr⟩
 ·obtain ⟨hR,jv,rfl,hv⟩:=hm
  obtain rfl:jv=eV ad cd:=by
   rcases hv with ⟨_,q,_⟩ | ⟨q,_⟩
   ·exact q
   omega
  obtain ⟨hm2,hk2⟩:=HU.o.1.repAct ha hA hR
  have H2:Aside (MeshS gd B n bm K st N w2/\Below B w w2/\¬Fits G (allR (K a)) l):=⟨⟨_,_,_,_,_,_,_,_,by rw [setAt_same] at hm2;exact hm2⟩,(HU.o.2.2.1.mono HM.o.1.base).trans (HU.o.1.below hk2 (fun k e=>by have e':ow k=10+a:=e;omega)),hnf⟩
  rw [eV_iface hcd]
  clear hm2 hk2 hA hR hv hnf hj hcd
  go_wp2
  go_ret
  exact ⟨_,K,D,st,rfl,H2.o.1,H2.o.2.1,HM.o.2.1,⟨fun _ _=>rfl,fun x hx=>hx,fun x hx=>.inl hx,fun q=>absurd q H2.o.2.2⟩,fun q=>absurd q H2.o.2.2⟩
 obtain ⟨rfl,R',hR,hmem0⟩:=hm
 obtain ⟨hm2,hk2⟩:=HU.o.1.repAct ha hA hR
 have hmem:∀x,x∈allR R'↔x∈allR (K a)\/x∈l:=fun x=>(hmem0 x).trans (hfr x)
 have hV2:VecBlk w2 P (vecR (K a)):=(hk2.block P HU.o.2.1.lt (fun q=>by have q':ow P=10+a:=q;rw [HU.o.2.2.2] at q';omega)).trans HU.o.2.1
 obtain ⟨ow2,how2⟩:∃f,Aside (f=paintTo ow U w2 (10+a)):=⟨_,rfl⟩
 rw [<-how2.o] at hm2
 have hP2:ow2 P=0:=by rw [how2.o,paint_is HU.o.2.1.lt];exact HU.o.2.2.2
 have hm3:=hm2.later (vu _ w2).drew
 have hrl:(allR R').length<=125:=by
  have:=len_sub hR.wellK.num.nodup (H:=G) (fun x hx=>((hmem x).1 hx).elim (HM.o.2.1.inv.sub a ha x) (HM.o.2.2.2.2 x))
  have:=HM.o.2.1.inv.len
  omega
 have hdf:=pdiff_any w2.drew _ (br a) (a:Int) R' (vecR (K a)) (by have:=(hm3.rep a ha).1.rep;rw [setAt_is,setAt_is] at this;exact this) zj
 have H2:Aside (MeshAt gd B w2.drew ow2 n bm pv fv bp br d dv (setAt c a c') (setAt K a R') st N/\Below B w w2.drew/\RowsK R'/\(∀x,x∈allR R'↔x∈allR (K a)\/x∈l)/\ow2 P=0):=⟨hm3,((HU.o.2.2.1.mono HM.o.1.base).trans (HU.o.1.below hk2 (fun k e=>by have e':ow k=10+a:=e;omega))).drew,hR.wellK,hmem,hP2⟩
 have SD:PeerC w2.drew (bp a) (br a) (d a)/\VecBlk w2.drew P (vecR (K a)):=⟨(hm3.peer a ha).1,hV2⟩
 clear hm2 hk2 hA hR hj hfr hmem0 hmem hV2 hP2 hm3 hrl
 go_upto_region 5 with fail
 refine wp_region_H (S:=(fun w'=>PeerC w' (bp a) (br a) (d a)/\VecBlk w' P (vecR (K a)))) zk SD (fun hHeld=> ?_)
 refine tk 0 hHeld ?_
 refine tk 1 hHeld ?_
 refine tk 2 hHeld ?_
 refine tk 3 hHeld ?_ (hy:=Or.inl ⟨zu,zA⟩)
 refine tk 4 hHeld ?_ (hy:=Or.inl ⟨zu,by intro w' hSw;have q0:=hSw.2.at (i:=0) zj;have q1:=hSw.2.at (i:=1) zj;have q2:=hSw.2.at (i:=2) zj;have q3:=hSw.2.at (i:=3) zj;clear hSw;go_simp;try with_reducible rfl⟩)
 refine tk 7 hHeld ?_
 refine wpAnyH_one (i:=5) zk rfl (fun kQ hK=> ?_)
 go_simp
 refine hdf.mono ?_
 clear hdf
 rintro e w3 ⟨ao,cap,F,rfl,H3⟩
 have S3:PeerC w3 (bp a) (br a) (d a)/\VecBlk w3 P (vecR (K a)):=⟨SD.1.same (H3.o.2.2.2.block _ SD.1.lt),SD.2.later H3.o.2.2.2⟩
 have hHeld:=S3
 refine hK _ _ S3 ?_
 clear hK kQ SD
 refine qn ?_
 refine wpAnyH_one (i:=6) zk rfl (fun kQ hK=> ?_)
 go_simp
 refine hK _ _ S3 ?_
 clear hK kQ
 refine wpAnyH_done zk ?_ _
 refine qn ?_
 clear S3 hHeld
 have hFd:ByTime F/\F.Nodup/\∀x,x∈F↔x∈allR R'/\x∉allR (K a):=by
  obtain ⟨ys,y1,y2⟩:=H3.o.1
  rw [y2]
  exact diff_is (HM.o.2.1.rows a ha) H2.o.2.2.1 (fun x hx y hy=>H2.o.2.2.1.well.one x ((H2.o.2.2.2.1 x).2 (.inl hx)) y hy) y1
 have hFl:F.length<=125:=by
  have:=len_sub hFd.2.1 (H:=G) (fun x hx=>(((H2.o.2.2.2.1 x).1 ((hFd.2.2 x).1 hx).1)).elim (HM.o.2.1.inv.sub a ha x) (HM.o.2.2.2.2 x))
  have:=HM.o.2.1.inv.len
  omega
 obtain ⟨hm3,hown3⟩:=H2.o.1.lend H3.o.2.2.2
 obtain ⟨ow3,how3⟩:∃f,Aside (f=paintTo ow2 w2.drew w3 4):=⟨_,rfl⟩
 rw [<-how3.o] at hm3 hown3
 have H4:Aside (MeshAt gd B w3 ow3 n bm pv fv bp br d (setAt dv a (dv a)) (setAt c a c') (setAt K a R') (setAt st a (st a)) N/\DiskI (st a) (D a++F.take 0)/\OpsAt w3 (.slice ao F.length cap) F/\(F≠ []->∀g,(Value.slice ao F.length cap).ownBlock=some g->ow3 g=4)/\Below B w w3):=⟨by rw [setAt_same,setAt_same];exact hm3,by rw [List.take_zero,ur];exact HM.o.2.1.disk a ha,H3.o.2.1,fun hne g hg=>hown3 g (H3.o.2.2.1 hne g hg).1 (H3.o.2.2.1 hne g hg).2,H2.o.2.1.trans (H3.o.2.2.2.mono H2.o.1.base)⟩
 have HF:Aside (ByTime F/\F.Nodup/\∀x,x∈F↔x∈allR R'/\x∉allR (K a)):=hFd
 clear hFd hm3 hown3 H3
 go_wp2
 go_loopg [35] F.length (fun kx s35 wr=>∃(k:Nat) (s:DSt) (ow':Nat->Nat) (v':Value),s35= .int .i64 (k:Int)/\k<=F.length/\F.length - k<=kx/\Aside (MeshAt gd B wr ow' n bm pv fv bp br d (setAt dv a v') (setAt c a c') (setAt K a R') (setAt st a s) N/\DiskI s (D a++F.take k)/\s.2.1=(st a).2.1/\((st a).2.1=true->k=0)/\((st a).2.1=false->(st a).2.2.1=false->s.2.2.1=false)/\OpsAt wr (.slice ao F.length cap) F/\(F≠ []->∀g,(Value.slice ao F.length cap).ownBlock=some g->ow' g=4)/\Below B w wr))
 case atStart=>exact ⟨0,st a,ow3,dv a,rfl,vD _,vm _,H4.o.1,H4.o.2.1,rfl,fun _=>rfl,fun _ q=>q,H4.o.2.2.1,H4.o.2.2.2.1,H4.o.2.2.2.2⟩
 case round=>
  obtain ⟨k,s0,ow',v',rfl,hk,hkx,A⟩:=hrel
  clear H4
  by_cases hlt:k<F.length
  ·have d1:decide ((k:Int)<(F.length:Int))=true:=by simp;omega
   have wk:((k:Int)).toNat=k:=zj
   have pk:(0:Int)<=(k:Int):=zj
   have bk:(k:Int)<(F.length:Int):=zj
   obtain ⟨⟨t,b,m,kd,nd,o,s,v⟩,hx⟩:∃x,Aside (F[k]? =some x):=⟨F[k],vj hlt⟩
   obtain ⟨x,hxe⟩:∃x:OpX,Aside (x=(t,b,m,kd,nd,o,s,v)):=⟨_,rfl⟩
   have hFn:F≠ []:=fun q=>by rw [q] at hlt;simp at hlt
   have hxF:x∈F:=by rw [hxe.o];exact vx hx.o
   have hxo:errO x=0:=H2.o.2.2.1.well.ok x ((HF.o.2.2 x).1 hxF).1
   obtain ⟨b1,o1,e1,E1⟩:=opsAt_one A.o.2.2.2.2.2.1 hx.o
   dsimp only at E1
   subst e1
   obtain ⟨q0,q1,q2,q3,q4,q5,q6,q7⟩:=E1
   obtain ⟨U2,hU2⟩:=ze (wr.alloc (.cells #[.int .i64 t,.int .i64 b,.int .i64 m,.int .u8 (kd:Int),.int .i64 nd,.int .i64 o,.string s,.string v] 41))
   obtain ⟨Q,hQ⟩:=ze wr.heap.size
   have hbU2:Below wr.heap.size wr U2.drew:=by rw [hU2.o];exact (zh wr _).drew
   have OX:OpBlk U2.drew Q x:=by rw [hU2.o,hQ.o,hxe.o];exact OpBlk.new wr (t,b,m,kd,nd,o,s,v)
   have hm5:=A.o.1.later hbU2
   have hQo:ow' Q=0:=A.o.1.high Q (by rw [hQ.o];exact vm _)
   have hdk:=hm5.disk a ha
   rw [setAt_is,setAt_is] at hdk
   have hsz:=sized_ok (l:=[x]) (fun z hz=>by rw [vA.1 hz];exact hxo) x zm
   have hDl:(D a++F.take k).length<=300:=by have:=HM.o.2.1.dlen ha;rw [vw,vP];omega
   have happ:=append_any U2.drew x hdk.1 ((HM.o.2.2.1.mono A.o.2.2.2.2.2.2.2).later hbU2).j (fun j hj=>hm5.low j (by rw [hdk.2 j hj];omega)) hsz.1 hsz.2 (by have:=A.o.2.1.len;omega)
   have hst:=A.o.2.1.app hdk.1.left.1 hDl hxo
   obtain ⟨cd2,s2,hcs⟩:∃cd2 s2,Aside (appE s0 x=(cd2,s2)):=⟨(appE s0 x).1,(appE s0 x).2,rfl⟩
   rw [hcs.o] at happ hst
   dsimp only at happ hst
   have hfree:s0.2.1=false->s0.2.2.1=false->cd2=0/\s2.2.2.1=false:=fun f1 f2=>by
    have hB0:=A.o.2.1.len
    have htx:=text_short hxo
    have hrl:=recL_len (textO x)
    have hc:=hcs.o
    obtain ⟨B0,off0,wt0,lf0⟩:=s0
    dsimp only at f1 f2 hB0
    subst f1
    subst f2
    rw [app_free hxo zj] at hc
    cases hc
    exact ⟨rfl,rfl⟩
   have HST:Aside (((cd2=0/\s0.2.1=false/\s2.2.1=false/\DiskI s2 ((D a++F.take k)++ [x]))\/(cd2=11/\s2.2.1=true/\DiskI s2 (D a++F.take k)))/\(s0.2.1=false->s0.2.2.1=false->cd2=0/\s2.2.2.1=false)):=⟨hst,hfree⟩
   have HA:Aside (MeshAt gd B U2.drew ow' n bm pv fv bp br d (setAt dv a v') (setAt c a c') (setAt K a R') (setAt st a s0) N/\s0.2.1=(st a).2.1/\((st a).2.1=true->k=0)/\((st a).2.1=false->(st a).2.2.1=false->s0.2.2.1=false)/\OpsAt U2.drew (.slice (some ⟨b1,o1,none⟩) F.length cap) F/\(∀g,(Value.slice (some ⟨b1,o1,none⟩) F.length cap).ownBlock=some g->ow' g=4)/\Below B w U2.drew/\OpBlk U2.drew Q x/\ow' Q=0):=⟨hm5,A.o.2.2.1,A.o.2.2.2.1,A.o.2.2.2.2.1,A.o.2.2.2.2.2.1.later hbU2,A.o.2.2.2.2.2.2.1 hFn,A.o.2.2.2.2.2.2.2.trans (hbU2.mono A.o.1.base),OX,hQo⟩
   have SD:PeerC U2.drew (bp a) (br a) (d a)/\OpBlk U2.drew Q x:=⟨(hm5.peer a ha).1,OX⟩
   rw [hxe.o] at happ
   unfold encJ at happ
   dsimp only at happ
   clear hbU2 OX hm5 hQo hdk hsz hDl hst hfree A hxF hxo
   obtain ⟨u0,hu0⟩:=za wr
   subst hu0
   go_upto_region 8 with fail
   rw [<-hU2.o,<-hQ.o]
   clear q0 q1 q2 q3 q4 q5 q6 q7
   refine wp_region_H (S:=(fun w'=>PeerC w' (bp a) (br a) (d a)/\OpBlk w' Q x)) zk SD (fun hHeld=> ?_)
   refine tk 0 hHeld ?_
   refine tk 1 hHeld ?_
   refine tk 2 hHeld ?_
   refine tk 3 hHeld ?_ (hy:=Or.inl ⟨zu,qJ⟩)
   refine tk 4 hHeld ?_ (hy:=Or.inl ⟨zu,by intro w' hSw;have q2:=hSw.2;rw [hxe.o] at q2;obtain ⟨q0,q1,q2,q3,q4,q5,q6,q7,-⟩:=OpBlk.cells q2;dsimp only at q0 q1 q2 q3 q4 q5 q6 q7;clear hSw;go_simp;try with_reducible rfl⟩)
   refine wpAnyH_one (i:=5) zk rfl (fun kQ hK=> ?_)
   go_simp
   refine happ.mono ?_
   clear happ
   rintro e w5 ⟨rfl,H5⟩
   obtain ⟨dv5,hm5,hk5⟩:=HA.o.1.diskAct (st':=s2) ha (by rw [setAt_is];exact H5.o)
   have S5:PeerC w5 (bp a) (br a) (d a)/\OpBlk w5 Q x:=⟨(hm5.peer a ha).1,(hk5.block Q HA.o.2.2.2.2.2.2.2.1.lt (fun q=>by have q':ow' Q=20+a:=q;rw [HA.o.2.2.2.2.2.2.2.2] at q';omega)).trans HA.o.2.2.2.2.2.2.2.1⟩
   have hss:∀ {α:Type} (f:Nat->α) (x y:α),setAt (setAt f a x) a y=setAt f a y:=fun f x y=>by funext r;unfold setAt;split<;>rfl
   rw [hss,hss] at hm5
   have hin4:∀g,(Value.slice (some ⟨b1,o1,none⟩) F.length cap).ownBlock=some g->g<U2.drew.heap.size:=fun g hg=>HA.o.1.in_ (by rw [HA.o.2.2.2.2.2.1 g hg];omega)
   have H6:Aside (MeshAt gd B w5 (paintTo ow' U2.drew w5 (20+a)) n bm pv fv bp br d (setAt dv a dv5) (setAt c a c') (setAt K a R') (setAt st a s2) N/\OpsAt w5 (.slice (some ⟨b1,o1,none⟩) F.length cap) F/\(∀g,(Value.slice (some ⟨b1,o1,none⟩) F.length cap).ownBlock=some g->paintTo ow' U2.drew w5 (20+a) g=4)/\Below B w w5):=⟨hm5,opsAt_kept HA.o.2.2.2.2.1 (fun g hg=>hk5.block g (hin4 g hg) (fun q=>by have q':ow' g=20+a:=q;rw [HA.o.2.2.2.2.2.1 g hg] at q';omega)),fun g hg=>(paint_is (hin4 g hg)).trans (HA.o.2.2.2.2.2.1 g hg),HA.o.2.2.2.2.2.2.1.trans (HA.o.1.below hk5 (fun k e=>by have e':ow' k=20+a:=e;omega))⟩
   refine hK _ _ S5 ?_
   clear hK kQ hm5 hk5 SD hss hin4 H5
   refine qn ?_
   refine wpAnyH_one (i:=6) zk rfl (fun kQ hK=> ?_)
   go_simp
   refine hK _ _ S5 ?_
   clear hK kQ
   refine wpAnyH_done zk ?_ _
   refine qn ?_
   clear S5 hHeld
   rcases HST.o.1 with ⟨rfl,hon,hso,hdi⟩ | ⟨rfl,hso,hdi⟩
   ·have HD:Aside (s0.2.1=false/\s2.2.1=false/\DiskI s2 (D a++F.take (k+1))):=⟨hon,hso,by
     have e:F.take (k+1)=F.take k++ [x]:=by rw [hxe.o,ut,hx.o];rfl
     rw [e,<-vR]
     exact hdi⟩
    clear hon hso hdi
    rw [show eV ad 0= .nilIface from rfl]
    go_wp2
    go_roundg (F.length - (k+1))
    case measure=>omega
    case rel=>exact ⟨k+1,s2,_,dv5,zL,zj,vm _,H6.o.1,HD.o.2.2,by rw [HD.o.2.1,<-HD.o.1,HA.o.2.1],fun q=>(by rw [<-HA.o.2.1,HD.o.1] at q;cases q),fun f1 f2=>(HST.o.2 (by rw [HA.o.2.1];exact f1) (HA.o.2.2.2.1 f1 f2)).2,H6.o.2.1,fun _=>H6.o.2.2.1,H6.o.2.2.2⟩
   have HD:Aside (s2.2.1=true/\DiskI s2 (D a++F.take k)):=⟨hso,hdi⟩
   clear hso hdi
   rw [eV_iface (show (11:Nat)≠0 by omega)]
   go_wp2
   go_ret
   refine ⟨_,setAt K a R',setAt D a (D a++F.take k),setAt st a s2,rfl,⟨_,_,_,_,_,_,_,_,H6.o.1⟩,H6.o.2.2.2,HM.o.2.1.heard ha HM.o.2.2.2.2 H2.o.2.2.2.1 H2.o.2.2.1 HF.o.1 HF.o.2.1 HF.o.2.2 HA.o.2.2.1 (fun q=>by rw [HD.o.1] at q;cases q) HD.o.2,⟨fun r hr=>setAt_ne _ _ hr,fun x hx=>by rw [setAt_is];exact (H2.o.2.2.2.1 x).2 (.inl hx),fun x hx=>by rw [setAt_is] at hx;exact (H2.o.2.2.2.1 x).1 hx,fun _ x hx=>xY⟩,fun _ f1 f2=> ?_⟩
   have:=(HST.o.2 (by rw [HA.o.2.1];exact f1) (HA.o.2.2.2.1 f1 f2)).1
   omega
  have d1:decide ((k:Int)<(F.length:Int))=false:=zl
  obtain rfl:k=F.length:=zj
  have HA:Aside (_):=A.o
  go_wp2
  go_ret
  exact ⟨_,setAt K a R',setAt D a (D a++F.take F.length),setAt st a s0,rfl,⟨_,_,_,_,_,_,_,_,HA.o.1⟩,HA.o.2.2.2.2.2.2.2,HM.o.2.1.heard ha HM.o.2.2.2.2 H2.o.2.2.2.1 H2.o.2.2.1 HF.o.1 HF.o.2.1 HF.o.2.2 HA.o.2.2.2.1 (fun q=>⟨by rw [<-HA.o.2.2.1];exact q,vm _⟩) HA.o.2.1,⟨fun r hr=>setAt_ne _ _ hr,fun x hx=>by rw [setAt_is];exact (H2.o.2.2.2.1 x).2 (.inl hx),fun x hx=>by rw [setAt_is] at hx;exact (H2.o.2.2.2.1 x).1 hx,fun _ x hx=>xY⟩,fun _ _ _=>rfl⟩
end
section
open Go.RowKit Go.Lib Go.Sort Go.Maps
open scoped Classical
structure PeerNew (b:Nat) (w w':World) (p r0 dd:Nat) (c0:Nat->Nat) (v:Value):Prop where
 cell:PeerC w' p r0 dd
 rep:RepOwn w.heap.size w' c0 r0 (b:Int) (fun _=>[])
 disk:DiskAt w' dd v ([],false,false,0)
 below:Below w.heap.size w w'
 plo:w.heap.size<=p
 pc:c0 p=0
 dlo:∀k,OwnD dd v k->w.heap.size<=k/\c0 k=0/\k≠p
theorem newPeer_any (w:World) (b:Nat) (hb:b<4):
  Calls prog 21 #[.int .i64 (b:Int)] w fun e w'=>∃p r0 dd c0 v,e= .returned (.tuple #[.pointer (some ⟨p,0,none⟩),.nilIface])/\Aside (PeerNew b w w' p r0 dd c0 v):=by
 have hnew:=rnew_ok w (b:Int) zj zj
 go_enter func21,ntmps21
 go_wp2_with fail
 refine hnew.mono ?_
 clear hnew
 rintro e w1 ⟨c0,r0,rfl,hR,hb1⟩
 have H1:Aside (RepOwn w.heap.size w1 c0 r0 (b:Int) (fun _=>[])/\Below w.heap.size w w1):=⟨hR,hb1⟩
 have hdk:=newDisk_any ⟨#[]⟩ w1 (by show (0:Nat)<=65536;omega)
 clear hR hb1
 go_wp2_with fail
 refine hdk.mono ?_
 clear hdk
 rintro e w2 ⟨dd,v,rfl,H2⟩
 go_wp2
 go_ret2
 have hb3:Below w2.heap.size w2 (w2.alloc (.cells #[.pointer (some ⟨r0,0,none⟩),.pointer (some ⟨dd,0,none⟩)] 67)):=zh w2 _
 have hd:=H2.o.1
 have hs1:=H1.o.2.size
 have hs2:=H2.o.2.1.size
 refine ⟨w2.heap.size,r0,dd,c0,v,rfl,heap_alloc_new w2 _,(H1.o.1.later H2.o.2.1).later hb3,hd.later hb3,(H1.o.2.trans (H2.o.2.1.mono hs1)).trans (hb3.mono zj),zj,H1.o.1.high _ zj,fun k hk=> ?_⟩
 have h1:=H2.o.2.2 k hk
 have h2:=hd.own_lt hk
 exact ⟨zj,H1.o.1.high k h1,zj⟩
theorem MeshAt.grow {w1 w2:World} {v2:Value} {c:Nat->Nat->Nat} {p r0 dd:Nat} {c0:Nat->Nat} {o:Obj} (h:MeshAt gd B w ow n bm pv fv bp br d dv c K st N) (hn:n<4) (hp:PeerNew n w w1 p r0 dd c0 v)
  (hown:w2.ownsRow B 62 1 v2 (n+1) (ptrsP bp n++ [.pointer (some ⟨p,0,none⟩)])) (hgrow:(w1.alloc o).grownBy w2 pv.ownBlock) (hcase:(∃g cap,pv= .slice (some ⟨g,0,none⟩) n cap/\v2= .slice (some ⟨g,0,none⟩) (n+1) cap)\/(v2.ownBlock=some (w1.alloc o).heap.size/\(w1.alloc o).grownBy w2 none)) (hN:N= []):
  ∃ow',MeshAt gd B (w2.setCell ⟨bm,0,none⟩ v2) ow' (n+1) bm v2 fv (setAt bp n p) (setAt br n r0) (setAt d n dd) (setAt dv n v) (setAt c n c0) (setAt K n (fun _=>[])) (setAt st n ([],false,false,0)) N/\Below B w (w2.setCell ⟨bm,0,none⟩ v2):=by
 subst hN
 have h1:=h.later hp.below
 have s1:=hp.below.size
 have s2:w1.heap.size<=w2.heap.size:=by have:=hgrow.size;rw [vQ] at this;omega
 have hk1:Keeps (fun k=>pv.ownBlock=some k) w1 w2:=((Keeps.refl _ w1).alloc o).trans ((keeps_of_grown hgrow).mono (fun k _ hk=>by rw [<-hk]))
 obtain ⟨W,hW⟩:=za (w2.setCell ⟨bm,0,none⟩ v2)
 have hsW:Keeps (fun k=>k=bm) w2 W:=by rw [hW];exact setCells_keeps bm [v2] 0 w2
 have hsz:W.heap.size=w2.heap.size:=by rw [hW];simp
 have hk:Keeps (fun k=>pv.ownBlock=some k\/k=bm) w1 W:=(hk1.mono (fun k _ e=>.inl e)).then hsW (fun k _ e=>.inr e)
 have hpv:∀g,pv.ownBlock=some g->g<w.heap.size:=fun g hg=>h.in_ (by rw [h.op g hg];omega)
 have hbm:bm<w.heap.size:=h.in_ (by rw [h.om];omega)
 have same:∀ {k:Nat},k<w1.heap.size->(k<w.heap.size->ow k≠1/\ow k≠2)->W.heap[k]? =w1.heap[k]? :=fun {k} hkl hne=>hk.block k hkl (fun q=>by
  rcases q with q | q
  ·exact (hne (hpv k q)).2 (h.op k q)
  ·exact (hne (by rw [q];exact hbm)).1 (by rw [q];exact h.om))
 have hf:∃f:Nat->Nat,(∀k,k<w.heap.size->f k=ow k)/\(∀k,c0 k≠0->f k=10+n)/\(∀k,OwnD dd v k->f k=20+n)/\f p=30+n/\(∀g,v2.ownBlock=some g->w.heap.size<=g->f g=2)/\(∀k,W.heap.size<=k->f k=0):=by
  refine ⟨fun k=>if k<w.heap.size then ow k else if c0 k≠0 then 10+n else if OwnD dd v k then 20+n else if k=p then 30+n else if k<W.heap.size then 2 else 0,fun k hk=>if_pos hk,fun k hk=> ?_,fun k hk=> ?_,?_,fun g hg hgl=> ?_,fun k hkl=> ?_⟩
  ·have:=hp.rep.low k hk
   show (if _ then _ else _)=_
   rw [if_neg zj,if_pos hk]
  ·have:=hp.dlo k hk
   show (if _ then _ else _)=_
   rw [if_neg zj,if_neg (fun q=>q this.2.1),if_pos hk]
  ·have:=hp.plo
   show (if _ then _ else _)=_
   rw [if_neg zj,if_neg (fun q=>q hp.pc),if_neg (fun q=>(hp.dlo p q).2.2 rfl),if_pos rfl]
  ·have hgn:w1.heap.size<=g:=by
    rcases hcase with ⟨g',cp,e1,e2⟩ | ⟨e1,_⟩
    ·have:=hpv g qY
     omega
    rw [hg] at e1
    cases e1
    rw [vQ];omega
   have:=(hown.lt g hg).2
   show (if _ then _ else _)=_
   rw [if_neg zj,if_neg (fun q=>q (hp.rep.high g hgn)),if_neg (fun q=>by have:=hp.disk.own_lt q;omega),if_neg (fun q=>by have:=hp.cell.lt;omega),if_pos zj]
  show (if _ then _ else _)=_
  rw [if_neg zj,if_neg (fun q=>q (hp.rep.high k zj)),if_neg (fun q=>by have:=hp.disk.own_lt q;omega),if_neg (fun q=>by have:=hp.cell.lt;omega),if_neg zj]
 obtain ⟨f,f0,f1,f2,f3,f4,f5⟩:=hf
 have hue:∀ {k i:Nat},ow k=i->i≠0->f k=i:=fun {k i} e hi=>(f0 k (h.in_ yw)).trans e
 have in1:∀ {k i:Nat},ow k=i->i≠0->k<w1.heap.size:=fun {k i} e hi=>vJ (h.in_ yw) s1
 have off:∀ {k i:Nat},ow k=i->i≠1->i≠2->k<w.heap.size->ow k≠1/\ow k≠2:=fun {k i} e a1 a2 _=>⟨zj,zj⟩
 rw [<-hW]
 refine ⟨f,⟨zj,?_,hue h.om zj,?_,fun g hg=> ?_,?_,fun g hg=>hue (h.of g hg) zj,fun x hx=>zO,fun r hr=> ?_,fun r hr=> ?_,fun r hr=> ?_,fun k hq=> ?_,f5,by have:=h.base;omega,fun k o e=>⟨hue (h.guard k o e).1 zj,(same (in1 (h.guard k o e).1 zj) (off (h.guard k o e).1 zj zj)).trans (h1.guard k o e).2⟩⟩,?_⟩
 ·rw [hW]
  have hm1:MeshC w1 bm pv fv:=h1.mesh
  have hm2:MeshC w2 bm pv fv:=(hk1.block bm (vJ hbm s1) (fun q=>by have:=h.op bm q;rw [h.om] at this;omega)).trans hm1
  exact hm2.set0 v2
 ·rw [ptrsP_succ,setAt_is,ptrsP_congr (bp:=setAt bp n p) (bp':=bp) (fun r hr=>setAt_ne _ _ zj)]
  refine ownsHeld hown (fun g hg=>hsW.block g (hown.lt g hg).2 (fun q=> ?_))
  have q':g=bm:=q
  rcases hcase with ⟨g',cp,e1,e2⟩ | ⟨e1,_⟩
  ·have:=h.op g qY
   rw [q',h.om] at this
   omega
  rw [hg] at e1
  cases e1
  rw [vQ] at q'
  omega
 ·rcases hcase with ⟨g',cp,e1,e2⟩ | ⟨e1,_⟩
  ·have:=h.op g qY
   exact hue this zj
  refine f4 g hg ?_
  rw [hg] at e1
  cases e1
  rw [vQ];omega
 ·exact ownsHeld h1.fly (fun g hg=>same (in1 (h.of g hg) zj) (off (h.of g hg) zj zj))
 ·by_cases e:r=n
  ·subst e
   simp only [setAt_is]
   exact ⟨hp.cell.same (same hp.cell.lt (fun q=>absurd q (by have:=hp.plo;omega))),f3⟩
  simp only [setAt_ne _ _ e]
  obtain ⟨q1,q2⟩:=h1.peer r zj
  exact ⟨q1.same (same (in1 q2 zj) (off q2 zj zj)),hue q2 zj⟩
 ·by_cases e:r=n
  ·subst e
   simp only [setAt_is]
   exact ⟨(hp.rep.down h.base).keep zj (fun k hkl q=>same hkl (fun p=>absurd p (by have:=hp.rep.low k q;omega))),f1⟩
  simp only [setAt_ne _ _ e]
  obtain ⟨q1,q2⟩:=h1.rep r zj
  exact ⟨q1.keep zj (fun k hkl q=>same hkl (off (q2 k q) zj zj)),fun k q=>hue (q2 k q) zj⟩
 ·by_cases e:r=n
  ·subst e
   simp only [setAt_is]
   exact ⟨hp.disk.same (fun k q=>same (hp.disk.own_lt q) (fun p=>absurd p (by have:=(hp.dlo k q).1;omega))),f2⟩
  simp only [setAt_ne _ _ e]
  obtain ⟨q1,q2⟩:=h1.disk r zj
  exact ⟨q1.same (fun k q=>same (in1 (q2 k q) zj) (off (q2 k q) zj zj)),fun k q=>hue (q2 k q) zj⟩
 ·by_cases e:k<w.heap.size
  ·rw [f0 k e] at hq;exact h.low k hq
  have:=h.base;omega
 exact (hp.below.mono h.base).trans (hk.below (vr h.base s1) (fun k q=>by
  rcases q with q | q
  ·exact h.low k (by rw [h.op k q];omega)
  ·rw [q];exact h.low bm (by rw [h.om];omega)))
theorem infoPP:(prog.info? 62).map (fun i=>(i.zero,i.size,i.bytes))=some (some (.pointer none),1,8):=zk
theorem ownsRow_one {base:Nat} {e:TypeId} {xs:List Value} (h:w.ownsRow base e k v (n+1) xs):∃g cap,v= .slice (some ⟨g,0,none⟩) (n+1) cap:=by
 rcases h.2 with ⟨_,q⟩ | ⟨g,cap,cur,q,_⟩
 ·omega
 exact ⟨g,cap,q⟩
theorem mnew_any (w:World) (many:Nat) (h1:1<=many) (h4:many<=4) (hB:B<=w.heap.size):
  Calls prog 8 #[.int .i64 (many:Int)] w fun e w'=>∃bm,e= .returned (.tuple #[.pointer (some ⟨bm,0,none⟩),.nilIface])/\Aside (∃K st,MeshS (fun _=>none) B many bm K st [] w'/\Below w.heap.size w w'/\(∀r,r<many->K r=fun _=>[])/\(∀r,r<many->st r=([],false,false,0))/\w.heap.size<=bm):=by
 obtain ⟨i0,hi,hz0,hz1,hz2⟩:=info_parts infoPP
 have d1:decide ((many:Int)<1)=false:=zl
 have d2:decide ((4:Int)<(many:Int))=false:=zl
 have d1n:decide (many<1)=false:=zl
 have d2n:decide (4<many)=false:=zl
 obtain ⟨S,hS⟩:=ze w.heap.size
 obtain ⟨U,hU⟩:=ze (w.alloc (.cells #[.slice none 0 0,.slice none 0 0] 61))
 have hbU:Below w.heap.size w U:=yA
 have HU:Aside (MeshAt (fun _=>none) S U (fun k=>if k=S then 1 else 0) 0 S (.slice none 0 0) (.slice none 0 0) (fun _=>0) (fun _=>0) (fun _=>0) (fun _=>.slice none 0 0) (fun _ _=>0) (fun _ _=>[]) (fun _=>([],false,false,0)) []/\Below w.heap.size w U):=by
  refine ⟨⟨zj,by rw [hU.o,hS.o];exact heap_alloc_new w _,if_pos rfl,ud _ _ _ _,fun g hg=>qr,ud _ _ _ _,fun g hg=>qr,fun x hx=>zO,fun r hr=>absurd hr zj,fun r hr=>absurd hr zj,fun r hr=>absurd hr zj,fun k hk=> ?_,fun k hk=> ?_,by have:=hbU.size;rw [hS.o];exact this,fun k o e=>qC⟩,hbU⟩
  ·by_cases e:k=S
   ·omega
   exact absurd (if_neg e) hk
  have hl:U.heap.size=S+1:=by rw [hU.o,hS.o];simp
  exact if_neg zj
 clear hbU
 go_enter func8,ntmps8
 go_upto_region 4 with fail
 rw [<-hU.o,<-hS.o]
 clear d1 d2 d1n d2n
 go_wp2
 go_loopg [18] many (fun kx s18 wr=>∃(k:Nat) (ow:Nat->Nat) (pv:Value) (bp br d:Nat->Nat) (dv:Nat->Value) (c:Nat->Nat->Nat) (K:Nat->Rws) (st:Nat->DSt),s18= .int .i64 (k:Int)/\k<=many/\many - k<=kx/\Aside (MeshAt (fun _=>none) S wr ow k S pv (.slice none 0 0) bp br d dv c K st []/\Below S w wr/\(∀r,r<k->K r=fun _=>[])/\(∀r,r<k->st r=([],false,false,0))))
 case atStart=>exact ⟨0,_,_,_,_,_,_,_,_,_,rfl,vD _,vm _,HU.o.1,by rw [hS.o];exact HU.o.2,fun r hr=>absurd hr zj,fun r hr=>absurd hr zj⟩
 case round=>
  obtain ⟨k,ow,pv,bp,br,d,dv,c,K,st,rfl,hk,hkx,A⟩:=hrel
  clear HU
  by_cases hlt:k<many
  ·have d1:decide ((k:Int)<(many:Int))=true:=by simp;omega
   have d1n:decide (k<many)=true:=zl
   have hnp:=newPeer_any wr k zj
   obtain ⟨u,hu⟩:=za wr
   subst hu
   go_wp2_with fail
   refine hnp.mono ?_
   clear hnp
   rintro e w1 ⟨p,r0,dd,c0,v,rfl,HP⟩
   have hm1:=A.o.1.later HP.o.below
   obtain ⟨v2,w2,hrun,hown,hgrow,hcase⟩:=append_in (P:=prog) (w1.alloc (.cells #[.pointer (some ⟨p,0,none⟩)] 62)) S 59 59 62 i0 _ 1 8 underlying59 hi hz0 hz1 hz2 rfl zj pv k (ptrsP bp k) (hm1.peers.alloc _) ⟨w1.heap.size,0,none⟩ 1 1 zj [.pointer (some ⟨p,0,none⟩)] rfl
    (uF (cs:= #[.pointer (some ⟨p,0,none⟩)]) (t:=62) (fr:=(0,0)) (heap_alloc_new w1 _)) qI zw zj (by have:=hm1.base;rw [vQ];omega)
   obtain ⟨ow',hm2,hb2⟩:=A.o.1.grow zj HP.o hown hgrow hcase rfl
   have hM1:=hm1.mesh
   have m0:=hM1.c0
   have hM2:MeshC w2 S pv (.slice none 0 0):=by
    have hk1:Keeps (fun k=>pv.ownBlock=some k) w1 w2:=((Keeps.refl _ w1).alloc _).trans ((keeps_of_grown hgrow).mono (fun k _ hk=>by rw [<-hk]))
    exact (hk1.block S hM1.lt (fun q=>by have:=A.o.1.op S q;rw [A.o.1.om] at this;omega)).trans hM1
   have n0:=hM2.c0
   have nf:=hM2.fz 0
   obtain ⟨g2,cp2,rfl⟩:=ownsRow_one hown
   have HN:Aside (MeshAt (fun _=>none) S (w2.setCell ⟨S,0,none⟩ (.slice (some ⟨g2,0,none⟩) (k+1) cp2)) ow' (k+1) S (.slice (some ⟨g2,0,none⟩) (k+1) cp2) (.slice none 0 0) (setAt bp k p) (setAt br k r0) (setAt d k dd) (setAt dv k v) (setAt c k c0) (setAt K k (fun _=>[])) (setAt st k ([],false,false,0)) []/\Below S w (w2.setCell ⟨S,0,none⟩ (.slice (some ⟨g2,0,none⟩) (k+1) cp2))/\(∀r,r<k+1->setAt K k (fun _=>[]) r=fun _=>[])/\(∀r,r<k+1->setAt st k ([],false,false,0) r=([],false,false,0))):=⟨hm2,A.o.2.1.trans hb2,fun r hr=>by
     by_cases e:r=k
     ·rw [e,setAt_is]
     ·rw [setAt_ne _ _ e];exact A.o.2.2.1 r zj,fun r hr=>by
     by_cases e:r=k
     ·rw [e,setAt_is]
     ·rw [setAt_ne _ _ e];exact A.o.2.2.2 r zj⟩
   have hpvs:∃po pc,pv= .slice po k pc:=rowIs A.o.1.peers
   obtain ⟨po,pc,rfl⟩:=hpvs
   clear hm1 hown hgrow hcase hm2 hb2 hM1 hM2 HP A
   go_wp2_with (at_builtin;refine Lib.wpList_append_run _ rfl _ _ _ _ rfl _ _ rfl rfl _ _ hrun ?_)
   go_roundg (many - (k+1))
   case measure=>omega
   case rel=>exact ⟨k+1,_,_,_,_,_,_,_,_,_,zL,zj,zj,HN.o⟩
  have d1:decide ((k:Int)<(many:Int))=false:=zl
  have d1n:decide (k<many)=false:=zl
  obtain rfl:k=many:=zj
  have HA:Aside (MeshAt (fun _=>none) S wr ow k S pv (.slice none 0 0) bp br d dv c K st []/\Below S w wr/\(∀r,r<k->K r=fun _=>[])/\(∀r,r<k->st r=([],false,false,0))):=A.o
  go_wp2
  go_ret2
  have hm:=HA.o.1
  refine ⟨S,rfl,K,st,⟨ow,pv,.slice none 0 0,bp,br,d,dv,c,⟨hm.few,hm.mesh,hm.om,ownsLow hm.peers jj,hm.op,ownsLow hm.fly jj,hm.of,hm.notes,hm.peer,fun r hr=>⟨(hm.rep r hr).1.down jj,(hm.rep r hr).2⟩,hm.disk,fun q hq=>by have:=hm.low q hq;rw [hS.o] at this;omega,hm.high,by have:=hm.base;rw [hS.o] at this;omega,hm.guard⟩⟩,by have:=HA.o.2.1;rwa [hS.o] at this,HA.o.2.2.1,HA.o.2.2.2,yt⟩
