import Derived.Test.YtfkekfibjnjcnaaGreatDoorMZ33
import Derived.Test.YtfkekfibjnjcnaaGreatDoorMZ34
set_option linter.unusedSimpArgs false
set_option linter.unusedVariables false
set_option maxRecDepth 100000
set_option maxHeartbeats 64000000
namespace Go.Proofs.YtfkekfibjnjcnaaGreatDoor
open Go.Proofs.Tryz
variable {N:List NoteX} {G:List OpX} {B bm i n:Nat} {ad:Nat→Addr} {st:Nat→DSt} {D:Nat→List OpX} {bp br d ow:Nat→Nat} {gd:Nat→Option Obj} {K:Nat→Rws} {dv:Nat→Value} {fv pv:Value}
section
open Go.RowKit Go.Lib Go.Sort Go.Maps
open scoped Classical
theorem peer_any {c:Nat->Nat->Nat} (w:World) (x:Int) (h:MeshAt gd B w ow n bm pv fv bp br d dv c K st N) (hE:EnvM B ad w) (ho:(-9223372036854775808<=x/\x<=9223372036854775807)):
  Calls prog 22 #[.pointer (some ⟨bm,0,none⟩),.int .i64 x] w fun e w'=>(¬(0<=x/\x<(n:Int))/\e= .returned (.tuple #[.pointer none,eV ad 2])/\Aside (Below w.heap.size w w'))\/(∃r:Nat,r<n/\x=(r:Int)/\e= .returned (.tuple #[.pointer (some ⟨bp r,0,none⟩),.nilIface])/\w'=w):=by
 have m0:=h.mesh.c0
 obtain ⟨po,pc,hpv⟩:=rowIs h.peers
 have eb:=hE.t.env.op4.c1
 by_cases hin:0<=x/\x<(n:Int)
 ·obtain ⟨r,rfl⟩:∃r:Nat,x=(r:Int):=⟨x.toNat,zj⟩
  have hr:r<n:=zj
  have hcell:∃g,po=some ⟨g,0,none⟩/\w.cell? ⟨g,r,none⟩=some (.pointer (some ⟨bp r,0,none⟩)):=by
   have hp:=h.peers
   rcases hp.2 with ⟨_,q⟩ | ⟨g,cap,cur,q,_⟩
   ·omega
   rw [hpv] at q
   cases q
   refine ⟨g,rfl,?_⟩
   rw [hpv] at hp
   rw [hp.cellAt r zj,ptrsP_get bp hr]
  obtain ⟨g,rfl,r0⟩:=hcell
  have d0:decide ((r:Int)<0)=false:=zm
  have d1:decide ((n:Int)<=(r:Int))=false:=zl
  have d1n:decide (n<=r)=false:=zl
  have wk:((r:Int)).toNat=r:=zj
  have pk:(0:Int)<=(r:Int):=zj
  have bk:(r:Int)<(n:Int):=zj
  subst hpv
  clear h hE hin
  go_enter func22,ntmps22
  go_wp2
  go_ret2
  exact .inr ⟨r,hr,rfl,rfl,rfl⟩
 subst hpv
 have SD:w.drew.cell? ⟨0,0,none⟩=some (.iface 350 (.pointer (some (ad 1)))):=eb
 have HI:Aside (¬(0<=x/\x<(n:Int))):=hin
 clear h hE
 by_cases h0:x<0
 ·have d0:decide (x<0)=true:=by simp;omega
  clear hin h0
  go_enter func22,ntmps22
  go_upto_region 2 with fail
  refine wp_region_H (S:=(fun w'=>w'.cell? ⟨0,0,none⟩=some (.iface 350 (.pointer (some (ad 1)))))) zk SD (fun hHeld=> ?_)
  refine tk 0 hHeld ?_ (hy:=Or.inl ⟨zu,yg⟩)
  refine tk 1 hHeld ?_
  refine wpAnyH_one (i:=2) zk rfl (fun kQ hK=> ?_)
  go_simp
  refine hK _ _ SD ?_
  clear hK kQ
  refine wpAnyH_done zk ?_ _
  refine qn ?_
  go_wp2
  go_ret2
  exact .inl ⟨HI.o,rfl,(vu _ w).drew⟩
 have d0:decide (x<0)=false:=zl
 have d1:decide ((n:Int)<=x)=true:=zl
 clear hin h0
 go_enter func22,ntmps22
 go_upto_region 2 with fail
 refine wp_region_H (S:=(fun w'=>w'.cell? ⟨0,0,none⟩=some (.iface 350 (.pointer (some (ad 1)))))) zk SD (fun hHeld=> ?_)
 refine tk 0 hHeld ?_ (hy:=Or.inl ⟨zu,yg⟩)
 refine tk 1 hHeld ?_
 refine wpAnyH_one (i:=2) zk rfl (fun kQ hK=> ?_)
 go_simp
 refine hK _ _ SD ?_
 clear hK kQ
 refine wpAnyH_done zk ?_ _
 refine qn ?_
 go_wp2
 go_ret2
 exact .inl ⟨HI.o,rfl,(vu _ w).drew⟩
theorem replica_any {c:Nat->Nat->Nat} (w:World) (r:Nat) (hr:r<n) (h:MeshAt gd B w ow n bm pv fv bp br d dv c K st N) (hE:EnvM B ad w):
  Calls prog 9 #[.pointer (some ⟨bm,0,none⟩),.int .i64 (r:Int)] w fun e w'=>e= .returned (.tuple #[.pointer (some ⟨br r,0,none⟩),.nilIface])/\w'=w:=by
 have hf:=h.few
 have hp:=peer_any w (r:Int) h hE ⟨zj,zj⟩
 have p0:=(h.peer r hr).1.c0
 clear h hE
 go_enter func9,ntmps9
 go_wp2_with fail
 refine hp.mono ?_
 clear hp
 rintro e w1 (⟨q,_⟩ | ⟨r',hr',hrr,rfl,rfl⟩)
 ·exact absurd ⟨zj,zj⟩ q
 obtain rfl:r=r':=zj
 go_wp2
 go_ret2
 exact ⟨rfl,rfl⟩
def StepOut (gd:Nat->Option Obj) (B n bm i:Nat) (G:List OpX) (K:Nat->Rws) (a:Nat->Prop) (w:World) (e:Ending) (w':World):Prop:=∃(v:Value) (K':Nat->Rws) (D':Nat->List OpX) (st':Nat->DSt) (N':List NoteX),e= .returned v/\Aside (MeshS gd B n bm K' st' N' w'/\Below B w w'/\MeshI n i G K' D' st' N'/\N'.length<=30/\∀r,r<n->¬a r->∀x∈allR (K r),x∈allR (K' r))
theorem cut_step (w:World) (x y:Int) (h:MeshS gd B n bm K st N w) (hI:MeshI n i G K D st N) (hN:N.length<=30) (hE:EnvM B ad w) (hx:(-9223372036854775808<=x/\x<=9223372036854775807)) (hy:(-9223372036854775808<=y/\y<=9223372036854775807)):
  Calls prog 25 #[.pointer (some ⟨bm,0,none⟩),.int .i64 x,.int .i64 y] w (StepOut gd B n bm i G K (fun _=>False) w):=by
 obtain ⟨ow,pv,fv,bp,br,d,dv,c,hm⟩:=h
 have hp:=peer_any w x hm hE hx
 have HM:Aside (MeshAt gd B w ow n bm pv fv bp br d dv c K st N/\MeshI n i G K D st N/\EnvM B ad w):=⟨hm,hI,hE⟩
 clear hm hI hE
 go_enter func25,ntmps25
 go_wp2_with fail
 refine hp.mono ?_
 clear hp
 rintro e w1 (⟨q,rfl,HB⟩ | ⟨r,hr,rfl,rfl,rfl⟩)
 ·rw [eV_iface (show (2:Nat)≠0 by omega)]
  clear q
  go_wp2
  go_ret
  exact ⟨_,K,D,st,N,rfl,⟨_,_,_,_,_,_,_,_,HM.o.1.later HB.o⟩,HB.o.mono HM.o.1.base,HM.o.2.1,hN,fun r _ _ x hx=>hx⟩
 have p1:=(HM.o.1.peer r hr).1.c1
 have hdk:=HM.o.1.disk r hr
 obtain ⟨B0,off,waits,left⟩:DSt:=st r
 have hc:=fun (q:DSt) (e:st r=q)=>cut_any (ad:=ad) (B:=q.1) (off:=q.2.1) (waits:=q.2.2.1) (left:=q.2.2.2) w1 y (by have:=hdk.1;rw [e] at this;exact this) HM.o.2.2.j.here.errd hy.2
 have hc':=hc (st r) rfl
 clear hc
 go_wp2_with fail
 refine hc'.mono ?_
 clear hc' p1
 rintro e w2 ⟨rfl,H2⟩
 obtain ⟨dv',hm2,hk2⟩:=HM.o.1.diskAct (st':=cutSt (st r) y) hr ⟨dv r,H2.o.1,H2.o.2.mono (fun k _ e=>.inl e),fun g hg=>.inl hg⟩
 have HF:Aside (MeshS gd B n bm K (setAt st r (cutSt (st r) y)) N w2/\Below B w1 w2):=⟨⟨_,_,_,_,_,_,_,_,hm2⟩,HM.o.1.below hk2 (fun k e=>by have e':ow k=20+r:=e;omega)⟩
 clear hm2 hk2 H2 hdk
 obtain ⟨ev,hev⟩:=ze (eV ad (cutE (st r).2.1 y))
 rw [<-hev.o]
 go_wp2
 go_ret
 exact ⟨_,K,D,_,N,rfl,HF.o.1,HF.o.2,HM.o.2.1.cut hr y,hN,fun r _ _ x hx=>hx⟩
theorem boot_step (w:World) (x:Int) (h:MeshS gd B n bm K st N w) (hI:MeshI n i G K D st N) (hN:N.length<=30) (hE:EnvM B ad w) (hi:i<=125) (hx:(-9223372036854775808<=x/\x<=9223372036854775807)):
  Calls prog 26 #[.pointer (some ⟨bm,0,none⟩),.int .i64 x] w (StepOut gd B n bm i G K (fun r=>x=(r:Int)) w):=by
 obtain ⟨ow,pv,fv,bp,br,d,dv,c,hm⟩:=h
 have hp:=peer_any w x hm hE hx
 have HM:Aside (MeshAt gd B w ow n bm pv fv bp br d dv c K st N/\MeshI n i G K D st N/\EnvM B ad w):=⟨hm,hI,hE⟩
 clear hm hI hE
 go_enter func26,ntmps26
 go_wp2_with fail
 refine hp.mono ?_
 clear hp
 rintro e w1 (⟨q,rfl,HB⟩ | ⟨r,hr,rfl,rfl,rfl⟩)
 ·rw [eV_iface (show (2:Nat)≠0 by omega)]
  clear q
  go_wp2
  go_ret
  exact ⟨_,K,D,st,N,rfl,⟨_,_,_,_,_,_,_,_,HM.o.1.later HB.o⟩,HB.o.mono HM.o.1.base,HM.o.2.1,hN,fun r _ _ x hx=>hx⟩
 have hb:=pboot_any w1 r HM.o.1 HM.o.2.1 HM.o.2.2 hr hi
 go_wp2_with fail
 refine hb.mono ?_
 clear hb
 rintro e w2 ⟨K',st',rfl,H2⟩
 go_wp2
 go_ret
 exact ⟨_,K',D,st',N,rfl,H2.o.1,H2.o.2.1,H2.o.2.2.1,hN,fun q _ hq x hx=>by rw [H2.o.2.2.2 q (fun e=>hq (by rw [e]))];exact hx⟩
def MDoOut (gd:Nat->Option Obj) (B n bm i:Nat) (ad:Nat->Addr) (G:List OpX) (K:Nat->Rws) (st:Nat->DSt) (N:List NoteX) (P:Nat->OpX->Nat->Prop) (x:Int) (w:World) (e:Ending) (w':World):Prop:=∃(y:OpX) (cd:Nat) (G':List OpX) (K':Nat->Rws) (D':Nat->List OpX) (st':Nat->DSt) (N':List NoteX),e= .returned (.tuple #[encO y,eV ad cd])/\Aside (MeshS gd B n bm K' st' N' w'/\Below B w w'/\MeshI n (i+1) G' K' D' st' N'/\N'.length<=30/\(∀r,r<n->∀x∈allR (K r),x∈allR (K' r))/\((cd≠0/\G'=G)\/(cd=0/\G'=G++ [y]/\byO y=x/\0<=x/\x<(n:Int)))/\(∀r:Nat,x=(r:Int)->r<n->∃y0 cd0,P r y0 cd0/\(cd0=0->(st r).2.1=false->(st r).2.2.1=false->cd=0/\y=y0))/\(∀r:Nat,x≠(r:Int)->K' r=K r/\st' r=st r)/\N'=N)
theorem do_of {gd:Nat->Option Obj} {B:Nat} {ad:Nat->Addr} {n bm:Nat} {K:Nat->Rws} {st:Nat->DSt} {N:List NoteX} {i:Nat} {G:List OpX} {D:Nat->List OpX} (w:World) (x:Int) (y:OpX) (h:MeshS gd B n bm K st N w) (hI:MeshI n i G K D st N) (hN:N.length<=30) (hE:EnvM B ad w) (hi:i<=125) (hx:(-9223372036854775808<=x/\x<=9223372036854775807)) (P:Nat->OpX->Nat->Prop) (hnx0:∀(U:World) (c0:Nat->Nat) (p b0 d0 r:Nat),r<n->x=(r:Int)->PeerC U p b0 d0->RepOwn B U c0 b0 (r:Int) (K r)->EnvM B ad U->Calls prog 60 #[.pointer (some ⟨p,0,none⟩),encO y] U (NextQ ad U (K r) r (P r))):
  Calls prog 19 #[.pointer (some ⟨bm,0,none⟩),.int .i64 x,encO y] w (MDoOut gd B n bm i ad G K st N P x w):=by
 obtain ⟨ow,pv,fv,bp,br,d,dv,c,hm⟩:=h
 obtain ⟨t,b,m,kd,nd,o,s,v⟩:=y
 obtain ⟨S,hS⟩:=ze w.heap.size
 obtain ⟨U,hU⟩:=ze ((w.alloc (.cells #[.int .i64 t,.int .i64 b,.int .i64 m,.int .u8 (kd:Int),.int .i64 nd,.int .i64 o,.string s,.string v] 41)).alloc (.cells #[.int .i64 0,.int .i64 0,.int .i64 0,.int .u8 0,.int .i64 0,.int .i64 0,.string ⟨#[]⟩,.string ⟨#[]⟩] 41))
 have hbU:Below w.heap.size w U:=jD
 have O0:OpBlk U S (t,b,m,kd,nd,o,s,v):=by rw [hU.o,hS.o];exact (vy _ _ _ zm).trans (OpBlk.new w (t,b,m,kd,nd,o,s,v))
 have Z0:OpBlk U (S+1) zeroO:=by
  rw [hU.o,hS.o]
  have:=OpBlk.new (w.alloc (.cells #[.int .i64 t,.int .i64 b,.int .i64 m,.int .u8 (kd:Int),.int .i64 nd,.int .i64 o,.string s,.string v] 41)) zeroO
  rw [vQ] at this
  exact this
 have hmU:=hm.later hbU
 have hEU:=hE.later hbU
 have hp:=peer_any U x hmU hEU hx
 have HM:Aside (MeshAt gd B w ow n bm pv fv bp br d dv c K st N/\MeshI n i G K D st N/\EnvM B ad w/\MeshAt gd B U ow n bm pv fv bp br d dv c K st N/\Below w.heap.size w U/\OpBlk U S (t,b,m,kd,nd,o,s,v)/\OpBlk U (S+1) zeroO/\EnvM B ad U/\ow (S+1)=0/\B<=S):=⟨hm,hI,hE,hmU,hbU,O0,Z0,hEU,hm.high _ (by rw [hS.o];omega),by rw [hS.o];exact hm.base⟩
 have HNX:Aside (∀(U:World) (c0:Nat->Nat) (p b0 d0 r:Nat),r<n->x=(r:Int)->PeerC U p b0 d0->RepOwn B U c0 b0 (r:Int) (K r)->EnvM B ad U->Calls prog 60 #[.pointer (some ⟨p,0,none⟩),encO (t,b,m,kd,nd,o,s,v)] U (NextQ ad U (K r) r (P r))):=hnx0
 clear hm hI hE hbU O0 Z0 hmU hEU hnx0
 unfold encO
 dsimp only
 go_enter func19,ntmps19
 go_upto_region 1 with fail
 rw [<-hU.o,<-hS.o]
 go_wp2_with fail
 refine hp.mono ?_
 clear hp
 rintro e w1 (⟨q,rfl,HB⟩ | ⟨r,hr,rfl,rfl,rfl⟩)
 ·rw [eV_iface (show (2:Nat)≠0 by omega)]
  have HQ:Aside (¬(0<=x/\x<(n:Int))):=q
  clear q
  have Z1:=HM.o.2.2.2.2.2.2.1.later HB.o
  obtain ⟨z0,z1,z2,z3,z4,z5,z6,z7,zf⟩:=Z1.cells
  unfold zeroO at z0 z1 z2 z3 z4 z5 z6 z7
  dsimp only at z0 z1 z2 z3 z4 z5 z6 z7
  clear Z1
  go_wp2
  (try simp only [Exit.inBlock,Exit.then])
  refine bodyPost_ret (v:=.tuple #[.agg #[.int .i64 0,.int .i64 0,.int .i64 0,.int .u8 0,.int .i64 0,.int .i64 0,.string ⟨#[]⟩,.string ⟨#[]⟩],.iface 350 (.pointer (some (ad (2 - 1))))]) ?_ rfl ?_
  ·rw [results_ct rfl]
   go_simp
  have hk7:=setCells_keeps (S+1) [.int .i64 0,.int .i64 0,.int .i64 0,.int .u8 0,.int .i64 0,.int .i64 0,.string ⟨#[]⟩,.string ⟨#[]⟩] 0 w1
  have hm1:=HM.o.2.2.2.1.later HB.o
  exact ⟨zeroO,2,G,K,D,st,N,rfl,⟨_,_,_,_,_,_,_,_,hm1.still hk7 (fun k e=>by have e':k=S+1:=e;rw [e'];exact HM.o.2.2.2.2.2.2.2.2.1)⟩,((HM.o.2.2.2.2.1.mono HM.o.1.base).trans (HB.o.mono HM.o.2.2.2.1.base)).trans (hk7.below hm1.base (fun k e=>xO)),HM.o.2.1.up zj,hN,fun r _ x hx=>hx,.inl ⟨zj,rfl⟩,fun r e hr=>absurd ⟨zj,zj⟩ HQ.o,fun r _=>⟨rfl,rfl⟩,rfl⟩
 have hd:=pdo_of w1 r (t,b,m,kd,nd,o,s,v) HM.o.2.2.2.1 HM.o.2.1 HM.o.2.2.2.2.2.2.2.1 hr hi (P r) (fun W hW=>HNX.o W (c r) (bp r) (br r) (d r) r hr rfl ((HM.o.2.2.2.1.later hW).peer r hr).1 ((HM.o.2.2.2.1.later hW).rep r hr).1 (HM.o.2.2.2.2.2.2.2.1.later hW))
 unfold encO at hd
 dsimp only at hd
 obtain ⟨j0,j1,j2,j3,j4,j5,j6,j7,-⟩:=HM.o.2.2.2.2.2.1.cells
 dsimp only at j0 j1 j2 j3 j4 j5 j6 j7
 go_wp2_with fail
 refine hd.mono ?_
 clear hd j0 j1 j2 j3 j4 j5 j6 j7
 rintro e w2 ⟨⟨t',b',m',kd',nd',o',s',v'⟩,cd,G',K',D',st',rfl,H2⟩
 unfold encO
 dsimp only
 obtain ⟨ow',pv',fv',bp',br',d',dv',c',hm2,hlone⟩:=H2.o.1
 have hSl:=HM.o.2.2.2.2.2.2.1.lt
 have hS0:=hlone (S+1) hSl HM.o.2.2.2.2.2.2.2.2.1
 have Z2:OpBlk w2 (S+1) zeroO:=hS0.2.trans HM.o.2.2.2.2.2.2.1
 obtain ⟨z0,z1,z2,z3,z4,z5,z6,z7,zf⟩:=Z2.cells
 unfold zeroO at z0 z1 z2 z3 z4 z5 z6 z7
 dsimp only at z0 z1 z2 z3 z4 z5 z6 z7
 have H3:Aside (MeshAt gd B w2 ow' n bm pv' fv' bp' br' d' dv' c' K' st' N/\ow' (S+1)=0):=⟨hm2,hS0.1⟩
 obtain ⟨er,her⟩:=ze (eV ad cd)
 rw [<-her.o]
 clear hm2 hlone hSl hS0 Z2
 go_wp2
 (try simp only [Exit.inBlock,Exit.then])
 refine bodyPost_ret (v:=.tuple #[.agg #[.int .i64 t',.int .i64 b',.int .i64 m',.int .u8 (kd':Int),.int .i64 nd',.int .i64 o',.string s',.string v'],er]) ?_ rfl ?_
 ·rw [results_ct rfl]
  go_simp
 have hk7:=setCells_keeps (S+1) [.int .i64 t',.int .i64 b',.int .i64 m',.int .u8 (kd':Int),.int .i64 nd',.int .i64 o',.string s',.string v'] 0 w2
 exact ⟨(t',b',m',kd',nd',o',s',v'),cd,G',K',D',st',N,by rw [<-her.o];rfl,⟨_,_,_,_,_,_,_,_,H3.o.1.still hk7 (fun k e=>by have e':k=S+1:=e;rw [e'];exact H3.o.2)⟩,((HM.o.2.2.2.2.1.mono HM.o.1.base).trans H2.o.2.1).trans (hk7.below H3.o.1.base (fun k e=>xO)),H2.o.2.2.1,hN,H2.o.2.2.2.1,H2.o.2.2.2.2.1.imp id (fun q=>⟨q.1,q.2.1,q.2.2,zj,zj⟩),fun r' e hr'=>by obtain rfl:r=r':=zj;obtain ⟨a1,a2,a3,a4,_⟩:=H2.o.2.2.2.2.2;exact ⟨a1,a2,a3,a4⟩,fun r' e=>by obtain ⟨_,_,_,_,a5⟩:=H2.o.2.2.2.2.2;exact a5 r' (fun q=>e (by rw [q])),rfl⟩
theorem do_step (w:World) (x:Int) (y:OpX) (h:MeshS gd B n bm K st N w) (hI:MeshI n i G K D st N) (hN:N.length<=30) (hE:EnvM B ad w) (hi:i<=125) (hn4:n<=4) (hx:(-9223372036854775808<=x/\x<=9223372036854775807)) (hy:OpIn y):
  Calls prog 19 #[.pointer (some ⟨bm,0,none⟩),.int .i64 x,encO y] w (MDoOut gd B n bm i ad G K st N (fun _ _ _=>True) x w):=
 do_of w x y h hI hN hE hi hx (fun _ _ _=>True) (fun U c0 p b0 d0 r hr e hP hR hEU=>next_any U c0 p b0 d0 r (K r) y hP hR hEU zj (fun T hT=>by have:=hI.time hr hT;omega) jz hy)
