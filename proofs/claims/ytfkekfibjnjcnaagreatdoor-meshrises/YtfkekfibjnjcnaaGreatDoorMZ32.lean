import Derived.Test.YtfkekfibjnjcnaaGreatDoorMZ31
set_option linter.unusedSimpArgs false
set_option linter.unusedVariables false
set_option maxRecDepth 100000
set_option maxHeartbeats 64000000
namespace Go.Proofs.YtfkekfibjnjcnaaGreatDoor
open Go.Proofs.Tryz
variable {B:Nat} {ad:Nat→Addr} {w w':World}
section
open Go.RowKit Go.Lib Go.Sort Go.Maps
open scoped Classical
structure EnvM (B:Nat) (ad:Nat->Addr) (w:World):Prop where
 t:EnvT B ad w
 j:EnvJ B ad w
 cyc:Aside (Cyc ad)
theorem EnvM.mono {B:Nat} {ad:Nat->Addr} {w w':World} (h:EnvM B ad w) (hb:Below B w w'):EnvM B ad w':=⟨h.t.mono hb,h.j.mono hb,h.cyc⟩
theorem EnvM.later (h:EnvM B ad w) (hb:Below w.heap.size w w'):EnvM B ad w':=h.mono (hb.mono h.t.env.size)
theorem EnvM.up {B B':Nat} {ad:Nat->Addr} {w:World} (h:EnvM B ad w) (hB:B<=B') (hs:B'<=w.heap.size):EnvM B' ad w:=⟨h.t.up hB hs,h.j.up hB hs,h.cyc⟩
theorem eV_iface {cd:Nat} (h:cd≠0):eV ad cd= .iface 350 (.pointer (some (ad (cd - 1)))):=if_neg h
def OpIn (x:OpX):Prop:=x.2.2.2.2.2.2.1.size<=60/\x.2.2.2.2.2.2.2.size<=60/\x.2.2.2.1<256/\(-9223372036854775808<=nodeO x/\nodeO x<=9223372036854775807)/\(-9223372036854775808<=otherO x/\otherO x<=9223372036854775807)
def Lone (ow:Nat->Nat) (w:World) (ow':Nat->Nat) (w':World):Prop:=∀k,k<w.heap.size->ow k=0->ow' k=0/\w'.heap[k]? =w.heap[k]?
def MeshL (gd:Nat->Option Obj) (B n bm:Nat) (ow:Nat->Nat) (w:World) (K:Nat->Rws) (st:Nat->DSt) (N:List NoteX) (w':World):Prop:=∃ow' pv fv bp br d dv c,MeshAt gd B w' ow' n bm pv fv bp br d dv c K st N/\Lone ow w ow' w'
def DoOut (gd:Nat->Option Obj) (B n bm i:Nat) (ad:Nat->Addr) (ow:Nat->Nat) (G:List OpX) (K:Nat->Rws) (st:Nat->DSt) (N:List NoteX) (a:Nat) (P:OpX->Nat->Prop) (w:World) (e:Ending) (w':World):Prop:=∃(y:OpX) (cd:Nat) (G':List OpX) (K':Nat->Rws) (D':Nat->List OpX) (st':Nat->DSt),e= .returned (.tuple #[encO y,eV ad cd])/\Aside (MeshL gd B n bm ow w K' st' N w'/\Below B w w'/\MeshI n (i+1) G' K' D' st' N/\(∀r,r<n->∀x∈allR (K r),x∈allR (K' r))/\((cd≠0/\G'=G)\/(cd=0/\G'=G++ [y]/\byO y=(a:Int)))/\∃y0 cd0,P y0 cd0/\(cd0=0->(st a).2.1=false->(st a).2.2.1=false->cd=0/\y=y0)/\∀r,r≠a->K' r=K r/\st' r=st r)
theorem pdo_of {gd:Nat->Option Obj} {ow:Nat->Nat} {n bm:Nat} {pv fv:Value} {bp br d:Nat->Nat} {dv:Nat->Value} {c:Nat->Nat->Nat} {K:Nat->Rws} {st:Nat->DSt} {N:List NoteX} {i:Nat} {G:List OpX} {D:Nat->List OpX} (w:World) (a:Nat) (x:OpX) (h:MeshAt gd B w ow n bm pv fv bp br d dv c K st N) (hI:MeshI n i G K D st N) (hE:EnvM B ad w) (ha:a<n) (hi:i<=125) (P:OpX->Nat->Prop) (hnx0:∀U,Below w.heap.size w U->Calls prog 60 #[.pointer (some ⟨bp a,0,none⟩),encO x] U (NextQ ad U (K a) a P)):
  Calls prog 37 #[.pointer (some ⟨bp a,0,none⟩),encO x] w (DoOut gd B n bm i ad ow G K st N a P w):=by
 obtain ⟨t,b,m,kd,nd,o,s,v⟩:=x
 have ha4:a<4:=vJ ha h.few
 obtain ⟨S,hS⟩:=za w.heap.size
 obtain ⟨U,hU⟩:=za ((w.alloc (.cells #[.int .i64 t,.int .i64 b,.int .i64 m,.int .u8 (kd:Int),.int .i64 nd,.int .i64 o,.string s,.string v] 41)).alloc (.cells #[.int .i64 0,.int .i64 0,.int .i64 0,.int .u8 0,.int .i64 0,.int .i64 0,.string ⟨#[]⟩,.string ⟨#[]⟩] 41))
 have hbU:Below w.heap.size w U:=zI
 have O0:OpBlk U S (t,b,m,kd,nd,o,s,v):=qg
 have Z0:OpBlk U (S+1) zeroO:=by
  rw [hU,hS]
  have:=OpBlk.new (w.alloc (.cells #[.int .i64 t,.int .i64 b,.int .i64 m,.int .u8 (kd:Int),.int .i64 nd,.int .i64 o,.string s,.string v] 41)) zeroO
  rw [vQ] at this
  exact this
 obtain ⟨j0,j1,j2,j3,j4,j5,j6,j7,-⟩:=O0.cells
 dsimp only at j0 j1 j2 j3 j4 j5 j6 j7
 have hUm:=h.later hbU
 have hnx:=hnx0 U hbU
 unfold encO at hnx
 dsimp only at hnx
 have H0:Aside (U=(w.alloc (.cells #[.int .i64 t,.int .i64 b,.int .i64 m,.int .u8 (kd:Int),.int .i64 nd,.int .i64 o,.string s,.string v] 41)).alloc (.cells #[.int .i64 0,.int .i64 0,.int .i64 0,.int .u8 0,.int .i64 0,.int .i64 0,.string ⟨#[]⟩,.string ⟨#[]⟩] 41)/\OpBlk U (S+1) zeroO/\Below w.heap.size w U/\S=w.heap.size):=⟨hU,Z0,hbU,hS⟩
 have HM:Aside (MeshAt gd B w ow n bm pv fv bp br d dv c K st N/\MeshI n i G K D st N/\EnvM B ad w):=⟨h,hI,hE⟩
 clear hU hbU hS O0 Z0 hUm h hI hE hnx0
 unfold encO
 dsimp only
 go_enter func37,ntmps37
 go_upto_region 1 with fail
 rw [<-H0.o.1,<-H0.o.2.2.2]
 go_wp2_with fail
 refine hnx.mono ?_
 clear hnx j0 j1 j2 j3 j4 j5 j6 j7
 rintro e w2 ⟨⟨t',b',m',kd',nd',o',s',v'⟩,cd,rfl,H2,HP⟩
 unfold encO
 dsimp only
 obtain ⟨y,hy⟩:∃y:OpX,Aside (y=(t',b',m',kd',nd',o',s',v')):=⟨_,rfl⟩
 obtain ⟨V,hV⟩:=ze (w2.alloc (.cells #[.int .i64 t',.int .i64 b',.int .i64 m',.int .u8 (kd':Int),.int .i64 nd',.int .i64 o',.string s',.string v'] 41))
 obtain ⟨M,hM⟩:=ze w2.heap.size
 have hbw2:Below w.heap.size w w2:=zi H0.o.2.2.1 H2.o.1
 have hbV:Below w.heap.size w V:=by rw [hV.o];exact hbw2.alloc hbw2.size _
 have OY:OpBlk V M y:=by rw [hV.o,hM.o,hy.o];exact OpBlk.new w2 (t',b',m',kd',nd',o',s',v')
 have Z2:=H0.o.2.1.later H2.o.1
 have ZV:OpBlk V (S+1) zeroO:=by
  rw [hV.o]
  exact (vy _ _ _ Z2.lt).trans Z2
 have HV:Aside (Below w.heap.size w V/\OpBlk V M y/\OpBlk V (S+1) zeroO/\S+1<M/\w.heap.size<=M):=⟨hbV,OY,ZV,by have:=Z2.lt;rw [hM.o];exact this,by have:=hbw2.size;rw [hM.o];exact this⟩
 obtain ⟨z0,z1,z2,z3,z4,z5,z6,z7,zf⟩:=ZV.cells
 unfold zeroO at z0 z1 z2 z3 z4 z5 z6 z7
 dsimp only at z0 z1 z2 z3 z4 z5 z6 z7
 clear hbw2 hbV OY ZV Z2
 by_cases hcd:cd=0
 ·subst hcd
  obtain ⟨T,hT,hnext⟩:∃T,timeO (allR (K a)) T/\NextOp (K a) a T y:=by
   rw [hy.o]
   rcases H2.o.2.2 with ⟨q,_⟩ | ⟨_,q⟩
   ·exact absurd rfl q
   exact q
  have HN:Aside (timeO (allR (K a)) T/\NextOp (K a) a T y):=⟨hT,hnext⟩
  have hbD:Below w.heap.size w V.drew:=HV.o.1.drew
  have hVm:=HM.o.1.later hbD
  have hsz:=sized_ok (l:=[y]) (fun z hz=>by rw [vA.1 hz];exact hnext.ok) y zm
  have happ:=append_any V.drew y (hVm.disk a ha).1 (HM.o.2.2.later hbD).j (fun k hk=>hVm.low k (by rw [(hVm.disk a ha).2 k hk];omega)) hsz.1 hsz.2 (HM.o.2.1.blen ha zj)
  have hst:=(HM.o.2.1.disk a ha).app (hVm.disk a ha).1.left.1 (by have:=HM.o.2.1.dlen ha;omega) hnext.ok
  obtain ⟨cd2,s2,hcs⟩:∃cd2 s2,Aside (appE (st a) y=(cd2,s2)):=⟨(appE (st a) y).1,(appE (st a) y).2,rfl⟩
  rw [hcs.o] at happ hst
  dsimp only at happ hst
  have HST:Aside ((cd2=0/\(st a).2.1=false/\s2.2.1=false/\DiskI s2 (D a++ [y]))\/(cd2=11/\s2.2.1=true/\DiskI s2 (D a))):=hst
  have HFR:Aside ((st a).2.1=false->(st a).2.2.1=false->cd2=0):=fun f1 f2=>by
   have hB0:=(HM.o.2.1.disk a ha).len
   have hDl:=HM.o.2.1.dlen ha
   have htx:=text_short hnext.ok
   have hrl:=recL_len (textO y)
   have hc:=hcs.o
   obtain ⟨sq,hsq⟩:∃sq:DSt,sq=st a:=⟨_,rfl⟩
   rw [<-hsq] at f1 f2 hB0 hc
   obtain ⟨B0,off0,wt0,lf0⟩:=sq
   dsimp only at f1 f2 hB0
   subst f1
   subst f2
   rw [app_free hnext.ok zj] at hc
   cases hc
   rfl
  have SD:PeerC V.drew (bp a) (br a) (d a)/\OpBlk V.drew M y:=⟨(hVm.peer a ha).1,HV.o.2.1⟩
  have HVM:Aside (MeshAt gd B V.drew ow n bm pv fv bp br d dv c K st N/\OpBlk V.drew (S+1) zeroO/\Below w.heap.size w V.drew/\ow M=0/\ow (S+1)=0):=⟨hVm,HV.o.2.2.1,hbD,HM.o.1.high M HV.o.2.2.2.2,HM.o.1.high (S+1) zQ⟩
  clear hT hnext hsz hst hVm hbD
  rw [hy.o] at happ
  unfold encJ at happ
  dsimp only at happ
  rw [show eV ad 0= .nilIface from rfl]
  go_upto_region 4 with fail
  rw [<-hV.o,<-hM.o]
  refine wp_region_H (S:=(fun w'=>PeerC w' (bp a) (br a) (d a)/\OpBlk w' M y)) zk SD (fun hHeld=> ?_)
  refine tk 0 hHeld ?_
  refine tk 1 hHeld ?_
  refine tk 2 hHeld ?_
  refine tk 3 hHeld ?_ (hy:=Or.inl ⟨zu,qJ⟩)
  refine tk 4 hHeld ?_ (hy:=Or.inl ⟨zu,yo⟩)
  refine wpAnyH_one (i:=5) zk rfl (fun kQ hK=> ?_)
  go_simp
  refine happ.mono ?_
  clear happ
  rintro e w5 ⟨rfl,H5⟩
  obtain ⟨dv',hm5,hk5⟩:=HVM.o.1.diskAct ha H5.o
  have S5:PeerC w5 (bp a) (br a) (d a)/\OpBlk w5 M y:=⟨(hm5.peer a ha).1,(hk5.block M HV.o.2.1.lt (fun q=>by have q':ow M=20+a:=q;rw [HVM.o.2.2.2.1] at q';omega)).trans HV.o.2.1⟩
  have Z5:OpBlk w5 (S+1) zeroO:=(hk5.block (S+1) HV.o.2.2.1.lt (fun q=>by have q':ow (S+1)=20+a:=q;rw [HVM.o.2.2.2.2] at q';omega)).trans HV.o.2.2.1
  have hb5:Below B w w5:=(HVM.o.2.2.1.mono HM.o.1.base).trans (HVM.o.1.below hk5 (fun k e=>by have e':ow k=20+a:=e;omega))
  have H5M:Aside (MeshAt gd B w5 (paintTo ow V.drew w5 (20+a)) n bm pv fv bp br d (setAt dv a dv') c K (setAt st a s2) N/\Below B w w5/\paintTo ow V.drew w5 (20+a) M=0/\paintTo ow V.drew w5 (20+a) (S+1)=0/\Lone ow w (paintTo ow V.drew w5 (20+a)) w5):=⟨hm5,hb5,(paint_is HV.o.2.1.lt).trans HVM.o.2.2.2.1,(paint_is HV.o.2.2.1.lt).trans HVM.o.2.2.2.2,fun k hk e=>by
   have hkV:=vJ hk HVM.o.2.2.1.size
   exact ⟨(paint_is hkV).trans e,(hk5.block k hkV (fun q=>by have q':ow k=20+a:=q;omega)).trans (HVM.o.2.2.1.block k hk)⟩⟩
  refine hK _ _ S5 ?_
  clear hK kQ hm5 hk5 hb5 SD
  refine qn ?_
  refine wpAnyH_one (i:=6) zk rfl (fun kQ hK=> ?_)
  go_simp
  refine hK _ _ S5 ?_
  clear hK kQ
  refine wpAnyH_done zk ?_ _
  refine qn ?_
  obtain ⟨ow5,how5⟩:∃f,Aside (f=paintTo ow V.drew w5 (20+a)):=⟨_,rfl⟩
  rw [<-how5.o] at H5M
  clear z0 z1 z2 z3 z4 z5 z6 z7 zf
  obtain ⟨z0,z1,z2,z3,z4,z5,z6,z7,zf⟩:=Z5.cells
  unfold zeroO at z0 z1 z2 z3 z4 z5 z6 z7
  dsimp only at z0 z1 z2 z3 z4 z5 z6 z7
  have HZ5:Aside (OpBlk w5 (S+1) zeroO/\PeerC w5 (bp a) (br a) (d a)/\OpBlk w5 M y):=⟨Z5,S5.1,S5.2⟩
  clear Z5 S5 H5
  rcases HST.o with ⟨rfl,hon,hso,hdi⟩ | ⟨rfl,hso,hdi⟩
  ·have HD:Aside ((st a).2.1=false/\s2.2.1=false/\DiskI s2 (D a++ [y])):=⟨hon,hso,hdi⟩
   clear hon hso hdi z0 z1 z2 z3 z4 z5 z6 z7 zf
   rw [show eV ad 0= .nilIface from rfl]
   obtain ⟨X,hX⟩:=ze ((w5.alloc (.cells #[.int .i64 t',.int .i64 b',.int .i64 m',.int .u8 (kd':Int),.int .i64 nd',.int .i64 o',.string s',.string v'] 41)).drew)
   have hbX:Below w5.heap.size w5 X:=by rw [hX.o];exact (zh w5 _).drew
   have hinX:OpsIn X (some ⟨w5.heap.size,0,none⟩) [y]:=by
    refine .inr ⟨w5.heap.size,0,rfl,fun j u hj=> ?_⟩
    rw [hX.o]
    have:=lit_cellsO w5 (t',b',m',kd',nd',o',s',v') 41 j u (by rw [hy.o] at hj;simpa [cellsOf,flat] using hj)
    rw [Addr.add_lit] at this
    exact this
   have hmX:=H5M.o.1.later hbX
   have hjn:=joined_own X (c a) (br a) a (K a) (some ⟨w5.heap.size,0,none⟩) 1 T y (hmX.rep a ha).1 ((HM.o.2.2.mono H5M.o.2.1).later hbX).t ha4 hinX HN.o.2 HN.o.1.1 (by have:=HM.o.2.1.len ha;omega)
   have HX:Aside (MeshAt gd B X ow5 n bm pv fv bp br d (setAt dv a dv') c K (setAt st a s2) N/\OpBlk X (S+1) zeroO/\PeerC X (bp a) (br a) (d a)/\OpBlk X M y/\Below B w X/\Below w5.heap.size w5 X):=⟨hmX,HZ5.o.1.later hbX,(hmX.peer a ha).1,HZ5.o.2.2.later hbX,H5M.o.2.1.trans (hbX.mono H5M.o.1.base),hbX⟩
   have SD7:PeerC w5.drew (bp a) (br a) (d a)/\OpBlk w5.drew M y:=HZ5.o.2
   have SX:PeerC X (bp a) (br a) (d a)/\OpBlk X M y:=⟨HX.o.2.2.1,HX.o.2.2.2.1⟩
   clear hbX hinX hmX
   go_upto_region 7 with fail
   refine wp_region_H (S:=(fun w'=>PeerC w' (bp a) (br a) (d a)/\OpBlk w' M y)) zk SD7 (fun hHeld=> ?_)
   refine tk 0 hHeld ?_
   refine tk 1 hHeld ?_
   refine tk 2 hHeld ?_
   refine tk 3 hHeld ?_ (hy:=Or.inl ⟨zu,zA⟩)
   refine tk 4 hHeld ?_ (hy:=Or.inl ⟨zu,yo⟩)
   refine wpAnyH_one (i:=5) zk rfl (fun kQ hK=> ?_)
   go_simp
   rw [<-hX.o]
   refine hK _ _ SX ?_
   clear hK kQ hHeld
   refine qn ?_
   refine wpAnyH_one (i:=6) zk rfl (fun kQ hK=> ?_)
   go_simp
   refine hjn.mono ?_
   clear hjn
   rintro e w6 ⟨c',R',rfl,hA,hR',hmem,hlen⟩
   obtain ⟨hm6,hk6⟩:=HX.o.1.repAct ha hA hR'
   have k0:∀k,k<X.heap.size->ow5 k=0->w6.heap[k]? =X.heap[k]? :=fun k hk e=>hk6.block k hk (fun q=>by have q':ow5 k=10+a:=q;rw [e] at q';omega)
   have S6:PeerC w6 (bp a) (br a) (d a)/\OpBlk w6 M y:=⟨(hm6.peer a ha).1,(k0 M HX.o.2.2.2.1.lt H5M.o.2.2.1).trans HX.o.2.2.2.1⟩
   have Z6:OpBlk w6 (S+1) zeroO:=(k0 (S+1) HX.o.2.1.lt H5M.o.2.2.2.1).trans HX.o.2.1
   have H6:Aside (MeshAt gd B w6 (paintTo ow5 X w6 (10+a)) n bm pv fv bp br d (setAt dv a dv') (setAt c a c') (setAt K a R') (setAt st a s2) N/\Below B w w6/\paintTo ow5 X w6 (10+a) (S+1)=0/\RowsK R'/\(∀z,z∈allR R'↔z=y\/z∈allR (K a))/\Lone ow w (paintTo ow5 X w6 (10+a)) w6):=⟨hm6,HX.o.2.2.2.2.1.trans (HX.o.1.below hk6 (fun k e=>by have e':ow5 k=10+a:=e;omega)),(paint_is HX.o.2.1.lt).trans H5M.o.2.2.2.1,hR'.wellK,hmem,fun k hk e=>by
    obtain ⟨e5,b5⟩:=H5M.o.2.2.2.2 k hk e
    have hk5:k<w5.heap.size:=vJ hk H5M.o.2.1.size
    have hkX:=vJ hk5 HX.o.2.2.2.2.2.size
    exact ⟨(paint_is hkX).trans e5,((k0 k hkX e5).trans (HX.o.2.2.2.2.2.block k hk5)).trans b5⟩⟩
   have hHeld:=S6
   refine hK _ _ S6 ?_
   clear hK kQ hm6 hk6 k0 hA hR' hmem hlen SX SD7
   refine qn ?_
   refine tk 7 hHeld ?_
   refine tk 8 hHeld ?_
   refine tk 9 hHeld ?_
   refine tk 10 hHeld ?_
   refine wpAnyH_one (i:=11) zk rfl (fun kQ hK=> ?_)
   go_simp
   refine hK _ _ S6 ?_
   clear hK kQ
   refine wpAnyH_done zk ?_ _
   refine qn ?_
   have Y6:=S6.2
   rw [hy.o] at Y6
   obtain ⟨q0,q1,q2,q3,q4,q5,q6,q7,-⟩:=Y6.cells
   dsimp only at q0 q1 q2 q3 q4 q5 q6 q7
   obtain ⟨z0,z1,z2,z3,z4,z5,z6,z7,zf⟩:=Z6.cells
   unfold zeroO at z0 z1 z2 z3 z4 z5 z6 z7
   dsimp only at z0 z1 z2 z3 z4 z5 z6 z7
   clear Y6 Z6 S6 hHeld
   go_wp2
   (try simp only [Exit.inBlock,Exit.then])
   refine bodyPost_ret (v:=.tuple #[.agg #[.int .i64 t',.int .i64 b',.int .i64 m',.int .u8 (kd':Int),.int .i64 nd',.int .i64 o',.string s',.string v'],.nilIface]) ?_ rfl ?_
   ·rw [results_ct rfl]
    go_simp
   have hk7:=setCells_keeps (S+1) [.int .i64 t',.int .i64 b',.int .i64 m',.int .u8 (kd':Int),.int .i64 nd',.int .i64 o',.string s',.string v'] 0 w6
   refine ⟨(t',b',m',kd',nd',o',s',v'),0,G++ [y],setAt K a R',setAt D a (D a++ [y]),setAt st a s2,rfl,⟨_,_,_,_,_,_,_,_,H6.o.1.still hk7 (fun k e=>by have e':k=S+1:=e;rw [e'];exact H6.o.2.2.1),fun k hk e=>⟨(H6.o.2.2.2.2.2 k hk e).1,(hk7.block k (vJ hk H6.o.2.1.size) (fun q=>qm)).trans (H6.o.2.2.2.2.2 k hk e).2⟩⟩,H6.o.2.1.trans (hk7.below (vr HM.o.1.base H6.o.2.1.size) (fun k e=>yJ)),HM.o.2.1.made ha ha4 HN.o.1 HN.o.2 HD.o.1 HD.o.2.2 HD.o.2.1 H6.o.2.2.2.1 H6.o.2.2.2.2.1,fun r hr x hx=> ?_,.inr ⟨rfl,by rw [hy.o],by have:=HN.o.2.by_;rw [hy.o] at this;exact this⟩,_,_,HP.o,fun _ _ _=>⟨rfl,rfl⟩,fun r hr=>⟨setAt_ne _ _ hr,setAt_ne _ _ hr⟩⟩
   by_cases q:r=a
   ·subst q;rw [setAt_is];exact (H6.o.2.2.2.2.1 x).2 (.inr hx)
   rw [setAt_ne _ _ q];exact hx
  have HD:Aside (s2.2.1=true/\DiskI s2 (D a)):=⟨hso,hdi⟩
  clear hso hdi
  rw [eV_iface (show (11:Nat)≠0 by omega)]
  go_wp2
  (try simp only [Exit.inBlock,Exit.then])
  refine bodyPost_ret (v:=.tuple #[.agg #[.int .i64 0,.int .i64 0,.int .i64 0,.int .u8 0,.int .i64 0,.int .i64 0,.string ⟨#[]⟩,.string ⟨#[]⟩],.iface 350 (.pointer (some (ad (11 - 1))))]) ?_ rfl ?_
  ·rw [results_ct rfl]
   go_simp
  have hk7:=setCells_keeps (S+1) [.int .i64 0,.int .i64 0,.int .i64 0,.int .u8 0,.int .i64 0,.int .i64 0,.string ⟨#[]⟩,.string ⟨#[]⟩] 0 w5
  exact ⟨zeroO,11,G,K,D,setAt st a s2,rfl,⟨_,_,_,_,_,_,_,_,H5M.o.1.still hk7 (fun k e=>by have e':k=S+1:=e;rw [e'];exact H5M.o.2.2.2.1),fun k hk e=>⟨(H5M.o.2.2.2.2 k hk e).1,(hk7.block k (vJ hk H5M.o.2.1.size) (fun q=>qm)).trans (H5M.o.2.2.2.2 k hk e).2⟩⟩,H5M.o.2.1.trans (hk7.below (vr HM.o.1.base H5M.o.2.1.size) (fun k e=>yJ)),(HM.o.2.1.dark HD.o.2 (fun e=>by rw [HD.o.1] at e;cases e)).up zj,fun r hr x hx=>hx,.inl ⟨zj,rfl⟩,_,_,HP.o,fun _ f1 f2=>absurd (HFR.o f1 f2) zj,fun r hr=>⟨rfl,setAt_ne _ _ hr⟩⟩
 obtain ⟨er,her⟩:=ze (ad (cd - 1))
 have HB:Aside (cd≠0):=hcd
 rw [eV_iface hcd,<-her.o]
 clear hcd
 go_upto_region 3 with fail
 rw [<-hV.o,<-hM.o]
 go_wp2
 (try simp only [Exit.inBlock,Exit.then])
 refine bodyPost_ret (v:=.tuple #[.agg #[.int .i64 0,.int .i64 0,.int .i64 0,.int .u8 0,.int .i64 0,.int .i64 0,.string ⟨#[]⟩,.string ⟨#[]⟩],.iface 350 (.pointer (some er))]) ?_ rfl ?_
 ·rw [results_ct rfl]
  go_simp
 have hk7:=setCells_keeps (S+1) [.int .i64 0,.int .i64 0,.int .i64 0,.int .u8 0,.int .i64 0,.int .i64 0,.string ⟨#[]⟩,.string ⟨#[]⟩] 0 V
 have hVm:=HM.o.1.later HV.o.1
 have hbV:=HV.o.1.mono HM.o.1.base
 exact ⟨zeroO,cd,G,K,D,st,by rw [eV_iface HB.o,<-her.o];rfl,⟨_,_,_,_,_,_,_,_,hVm.still hk7 (fun k e=>by have e':k=S+1:=e;rw [e'];exact HM.o.1.high _ zQ),fun k hk e=>⟨e,(hk7.block k (vJ hk HV.o.1.size) (fun q=>qm)).trans (HV.o.1.block k hk)⟩⟩,hbV.trans (hk7.below hVm.base (fun k e=>yJ)),HM.o.2.1.up zj,fun r hr x hx=>hx,.inl ⟨HB.o,rfl⟩,_,_,HP.o,fun q=>absurd q HB.o,fun r hr=>⟨rfl,rfl⟩⟩
theorem next_any {B:Nat} {ad:Nat->Addr} (w:World) (c:Nat->Nat) (p br d:Nat) (i:Nat) (R:Rws) (x:OpX) (hP:PeerC w p br d) (h:RepOwn B w c br (i:Int) R) (hE:EnvM B ad w) (hi:i<4) (hT:∀T,timeO (allR R) T->T<1073741824) (hn:(allR R).length<=140) (hx:OpIn x):
  Calls prog 60 #[.pointer (some ⟨p,0,none⟩),encO x] w (NextQ ad w R i (fun _ _=>True)):=
 (pnext_any w c p br d i R x hP h hE.t hE.cyc hi hT hn (by have:=hx.1;omega) (by have:=hx.2.1;omega) hx.2.2.1 hx.2.2.2.1 hx.2.2.2.2).mono (fun e w' q=>nextQ_of q)
