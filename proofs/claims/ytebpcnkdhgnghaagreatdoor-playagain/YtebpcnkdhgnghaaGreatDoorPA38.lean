import Derived.Test.YtebpcnkdhgnghaaGreatDoorPA35
import Derived.Test.YtebpcnkdhgnghaaGreatDoorPA37
set_option linter.unusedSimpArgs false
set_option linter.unusedVariables false
set_option maxRecDepth 100000
set_option maxHeartbeats 64000000
namespace Go.Proofs.YtebpcnkdhgnghaaGreatDoor
open Go.Proofs.Tryz
variable {N:List aO} {G:List OpX} {B bm i n:Nat} {ad:Nat→Addr} {st:Nat→DSt} {D:Nat→List OpX} {bp br d ow:Nat→Nat} {gd:Nat→Option Obj} {K:Nat→Rws} {dv:Nat→Value} {fv pv:Value} {w:World}
section
open Go.RowKit Go.Lib Go.Sort Go.Maps
open scoped Classical
def Nv (gd:Nat->Option Obj) (B n bm:Nat) (pv:Value) (bp br d:Nat->Nat) (dv:Nat->Value) (c:Nat->Nat->Nat) (K:Nat->Rws) (st:Nat->DSt) (N:List aO) (k:Nat) (x:aO) (w w':World):Prop:=N[k]? =some x/\∃ow' fv',MeshAt gd B w' ow' n bm pv fv' bp br d dv c K st (N.eraseIdx k)/\NoteIn w' ow' n x/\Below B w w'
theorem nY {fo:Option Addr} {fc:Nat} (h:w.ownsRow B 175 8 (.slice fo N.length fc) N.length (aB bD N)) {k:Nat} {x:aO} (hx:N[k]? =some x):∃blk off,fo=some ⟨blk,off,none⟩/\∀c u,(bD x)[c]? =some u->w.cell? ⟨blk,off+k*8+c,none⟩=some u:=(Mv bw h).get bw hx
theorem AE {c:Nat->Nat->Nat} (w:World) (at_:Int) (h:MeshAt gd B w ow n bm pv fv bp br d dv c K st N) (hE:EnvM B ad w) (hN:N.length<=30) (ho: -9223372036854775808<=at_/\at_<=9223372036854775807):
  Calls prog 86 #[.pointer (some ⟨bm,0,none⟩),.int .i64 at_] w fun e w'=>(¬(0<=at_/\at_<(N.length:Int))/\e= .returned (.tuple #[.agg #[.int .i64 0,.int .i64 0,.bool false,.int .i64 0,.int .i64 0,.int .i64 0,.int .i64 0,.slice none 0 0],eV ad 6])/\Aside (Below w.heap.size w w'))\/(∃(k:Nat) (x:aO),at_=(k:Int)/\k<N.length/\e= .returned (.tuple #[Jn x,.nilIface])/\Aside (Nv gd B n bm pv bp br d dv c K st N k x w w')):=by
 obtain ⟨S,hS⟩:=ze w.heap.size
 obtain ⟨U,hU⟩:=ze (w.alloc (.cells #[.int .i64 0,.int .i64 0,.bool false,.int .i64 0,.int .i64 0,.int .i64 0,.int .i64 0,.slice none 0 0] 175))
 have hbU:Below w.heap.size w U:=yg
 have hSc:U.heap[S]? =some (.cells #[.int .i64 0,.int .i64 0,.bool false,.int .i64 0,.int .i64 0,.int .i64 0,.int .i64 0,.slice none 0 0] 175 (0,0)):=by rw [hU.o,hS.o];exact heap_alloc_new w _
 have hmU:=h.later hbU
 obtain ⟨fo,fc,hfv⟩:=dV h.fly
 subst hfv
 have m1:=hmU.mesh.c1
 have hfl:=rP U at_ hmU.mesh ho
 have HM:Aside (MeshAt gd B w ow n bm pv (.slice fo N.length fc) bp br d dv c K st N/\EnvM B ad w/\MeshAt gd B U ow n bm pv (.slice fo N.length fc) bp br d dv c K st N/\Below w.heap.size w U/\U.heap[S]? =some (.cells #[.int .i64 0,.int .i64 0,.bool false,.int .i64 0,.int .i64 0,.int .i64 0,.int .i64 0,.slice none 0 0] 175 (0,0))):=⟨h,hE,hmU,hbU,hSc⟩
 have en:=(hE.later hbU).t.env.c5
 have lowE:1<S:=by have h1:=hE.t.env.low;have h2:=hE.t.env.size;rw [hS.o];show _<_;omega
 have HL:Aside (1<S):=lowE
 clear h hE hmU hbU lowE
 by_cases hin:0<=at_/\at_<(N.length:Int)
 ·obtain ⟨k,rfl⟩:∃k:Nat,at_=(k:Int):=⟨at_.toNat,zj⟩
  have hk:k<N.length:=zj
  rw [decide_eq_true hin] at hfl
  obtain ⟨⟨x1,x2,x3,x4,x5,x6,x7⟩,hx⟩:∃x,Aside (N[k]? =some x):=⟨N[k],jK hk⟩
  obtain ⟨x,hxe⟩:∃x:aO,Aside (x=(x1,x2,x3,x4,x5,x6,x7)):=⟨_,rfl⟩
  obtain ⟨blk,off,rfl,hc⟩:=nY HM.o.2.2.1.fly hx.o
  have r0:=hc 0 _ rfl
  have r1:=hc 1 _ rfl
  have r2:=hc 2 _ rfl
  have r3:=hc 3 _ rfl
  have r4:=hc 4 _ rfl
  have r5:=hc 5 _ rfl
  have r6:=hc 6 _ rfl
  have r7:=hc 7 _ rfl
  simp only [vI] at r0
  dsimp only at r0 r1 r2 r3 r4 r5 r6 r7
  unfold lE at r7
  dsimp only at r7
  have wk:((k:Int)).toNat=k:=zj
  have pk:(0:Int)<=(k:Int):=zj
  have bk:(k:Int)<(N.length:Int):=zj
  obtain ⟨P,hP⟩:=ze U.heap.size
  obtain ⟨V,hV⟩:=ze (U.alloc (.cells #[.int .i64 (x1:Int),.int .i64 (x2:Int),.bool x3,.int .i64 (x4 0),.int .i64 (x4 1),.int .i64 (x4 2),.int .i64 (x4 3),.slice x5 x7.length x6] 175))
  have hbV:Below U.heap.size U V:=by rw [hV.o];exact zh U _
  have hmV:=HM.o.2.2.1.later hbV
  have XV:NtBlk V P x:=by rw [hV.o,hP.o,hxe.o];exact NtBlk.new U (x1,x2,x3,x4,x5,x6,x7)
  have hSV:V.heap[S]? =some (.cells #[.int .i64 0,.int .i64 0,.bool false,.int .i64 0,.int .i64 0,.int .i64 0,.int .i64 0,.slice none 0 0] 175 (0,0)):=(hbV.block S ((jJ.1 HM.o.2.2.2.2).1)).trans HM.o.2.2.2.2
  have hdel:=LK V (.slice (some ⟨blk,off,none⟩) N.length fc) N k hmV.fly hk zj
  have v1:=hmV.mesh.c1
  have HV:Aside (MeshAt gd B V ow n bm pv (.slice (some ⟨blk,off,none⟩) N.length fc) bp br d dv c K st N/\NtBlk V P x/\V.heap[S]? =some (.cells #[.int .i64 0,.int .i64 0,.bool false,.int .i64 0,.int .i64 0,.int .i64 0,.int .i64 0,.slice none 0 0] 175 (0,0))/\Below w.heap.size w V/\ow P=0/\ow S=0/\S≠P):=⟨hmV,XV,hSV,zi HM.o.2.2.2.1 hbV,HM.o.1.high P (by have:=HM.o.2.2.2.1.size;rw [hP.o];exact this),HM.o.1.high S yL,by have:=(jJ.1 HM.o.2.2.2.2).1;rw [hP.o];omega⟩
  clear hc hbV hmV XV hSV hSc
  go_enter func86,ntmps86
  go_upto_region 1 with fail
  rw [<-hU.o,<-hS.o]
  go_wp2_with fail
  refine hfl.mono ?_
  clear hfl
  rintro e w1 ⟨rfl,rfl⟩
  go_upto_region 4 with fail
  rw [<-hV.o,<-hP.o]
  clear r0 r1 r2 r3 r4 r5 r6 r7 m1
  go_wp2_with fail
  refine hdel.mono ?_
  clear hdel
  rintro e w3 ⟨v3,rfl,H3⟩
  have hnx:=HM.o.2.2.1.notes _ (jT hx.o)
  have hnV:NoteIn V ow n x:=by
   have q:=HV.o.1.notes _ (jT hx.o)
   rw [hxe.o];exact q
  obtain ⟨hmF,hkF⟩:=HV.o.1.flyAct (v:=v3) (N':=N.eraseIdx k) H3.o.2.1 H3.o.1 (fun g hg=>.inl (by rw [<-H3.o.2.2];exact hg)) (fun y hy=>HV.o.1.notes y (uh hy))
  have hnF:=HV.o.1.note hnV hkF (fun j q=>by rcases q with q | q<;>omega) (w2:=w3) 3
  have k0:∀j,j<V.heap.size->ow j=0->w3.heap[j]? =V.heap[j]? :=fun j hj e=>H3.o.2.1.block j hj (fun q=>by have:=HV.o.1.of j (Eq.symm q);omega)
  have hM3:MeshC w3 bm pv (.slice (some ⟨blk,off,none⟩) N.length fc):=(H3.o.2.1.block bm HV.o.1.mesh.lt (fun q=>by have:=HV.o.1.of bm (Eq.symm q);rw [HV.o.1.om] at this;omega)).trans HV.o.1.mesh
  have n1:=hM3.c1
  have nf:=hM3.fz 1
  have X3:NtBlk w3 P x:=HV.o.2.1.same (k0 P HV.o.2.1.lt HV.o.2.2.2.2.1)
  have Z3:w3.heap[S]? =some (.cells #[.int .i64 0,.int .i64 0,.bool false,.int .i64 0,.int .i64 0,.int .i64 0,.int .i64 0,.slice none 0 0] 175 (0,0)):=(k0 S (jJ.1 HV.o.2.2.1).1 HV.o.2.2.2.2.2.1).trans HV.o.2.2.1
  have X4:NtBlk (w3.setCell ⟨bm,1,none⟩ v3) P x:=X3.same (aJ bm [v3] 1 w3 P (fun q=>by have:=HV.o.2.2.2.2.1;rw [q,HV.o.1.om] at this;omega))
  have Z4:(w3.setCell ⟨bm,1,none⟩ v3).heap[S]? =some (.cells #[.int .i64 0,.int .i64 0,.bool false,.int .i64 0,.int .i64 0,.int .i64 0,.int .i64 0,.slice none 0 0] 175 (0,0)):=(aJ bm [v3] 1 w3 S (fun q=>by have:=HV.o.2.2.2.2.2.1;rw [q,HV.o.1.om] at this;omega)).trans Z3
  obtain ⟨w4,hw4⟩:=ze (w3.setCell ⟨bm,1,none⟩ v3)
  rw [<-hw4.o] at hmF hkF hnF X4 Z4
  have H4:Aside (MeshAt gd B w4 (aD ow V w3 3) n bm pv v3 bp br d dv c K st (N.eraseIdx k)/\NoteIn w4 (aD ow V w3 3) n x/\Below B w w4/\aD ow V w3 3 S=0):=⟨hmF,hnF,(HV.o.2.2.2.1.mono HM.o.1.base).trans (HV.o.1.below hkF (fun j e=>xh)),(bT (jJ.1 HV.o.2.2.1).1).trans HV.o.2.2.2.2.2.1⟩
  rw [hxe.o] at X4
  obtain ⟨q0,q1,q2,q3,q4,q5,q6,q7,-⟩:=X4.cells
  unfold lE at q7
  dsimp only at q0 q1 q2 q3 q4 q5 q6 q7
  have z0:w4.cell? ⟨S,0,none⟩=some (.int .i64 0):=zK
  have z1:w4.cell? ⟨S,1,none⟩=some (.int .i64 0):=zK
  have z2:w4.cell? ⟨S,2,none⟩=some (.bool false):=zK
  have z3:w4.cell? ⟨S,3,none⟩=some (.int .i64 0):=zK
  have z4:w4.cell? ⟨S,4,none⟩=some (.int .i64 0):=zK
  have z5:w4.cell? ⟨S,5,none⟩=some (.int .i64 0):=zK
  have z6:w4.cell? ⟨S,6,none⟩=some (.int .i64 0):=zK
  have z7:w4.cell? ⟨S,7,none⟩=some (.slice none 0 0):=zK
  have zf:∀o,w4.frozen? ⟨S,o,none⟩=false:=fun o=>by simp [World.frozen?,Z4]
  obtain ⟨v3o,v3c,hv3⟩:=dV H3.o.1
  subst hv3
  clear hnx hnV hmF hkF hnF k0 hM3 X3 Z3 X4 Z4 H3 v1
  go_upto_region 5 with fail
  rw [<-hw4.o]
  clear n1 nf
  go_wp2
  (try simp only [Exit.inBlock,Exit.then])
  refine bodyPost_ret (v:=.tuple #[.agg #[.int .i64 (x1:Int),.int .i64 (x2:Int),.bool x3,.int .i64 (x4 0),.int .i64 (x4 1),.int .i64 (x4 2),.int .i64 (x4 3),.slice x5 x7.length x6],.nilIface]) ?_ rfl (.inr ⟨k,x,rfl,hk,by rw [hxe.o];rfl,?_⟩)
  ·exact kc4
  have hk7:=aY S [.int .i64 (x1:Int),.int .i64 (x2:Int),.bool x3,.int .i64 (x4 0),.int .i64 (x4 1),.int .i64 (x4 2),.int .i64 (x4 3),.slice x5 x7.length x6] 0 w4
  have hs0:∀j,j=S->aD ow V w3 3 j=0:=fun j e=>by rw [e];exact H4.o.2.2.2
  refine ⟨by rw [hxe.o];exact hx.o,_,_,H4.o.1.still hk7 hs0,⟨H4.o.2.1.from_,H4.o.2.1.to_,bg H4.o.2.1.ops (fun g hg=>hk7.block g (H4.o.1.in_ (by rw [H4.o.2.1.own g hg];omega)) (fun q=>by have:=hs0 g q;rw [H4.o.2.1.own g hg] at this;omega)),H4.o.2.1.own⟩,H4.o.2.2.1.trans (hk7.below H4.o.1.base (fun j e=>by have e':j=S:=e;have:=HM.o.1.base;rw [e',hS.o];exact this))⟩
 rw [decide_eq_false hin] at hfl
 have SD:U.drew.cell? ⟨1,0,none⟩=some (.iface 450 (.pointer (some (ad 5)))):=en
 obtain ⟨V,hV⟩:=ze U.drew
 have SV:V.cell? ⟨1,0,none⟩=some (.iface 450 (.pointer (some (ad 5)))):=by rw [hV.o];exact en
 have Z4:V.heap[S]? =some (.cells #[.int .i64 0,.int .i64 0,.bool false,.int .i64 0,.int .i64 0,.int .i64 0,.int .i64 0,.slice none 0 0] 175 (0,0)):=by rw [hV.o];exact hSc
 have SW:(V.setCells S 0 [.int .i64 0,.int .i64 0,.bool false,.int .i64 0,.int .i64 0,.int .i64 0,.int .i64 0,.slice none 0 0]).cell? ⟨1,0,none⟩=some (.iface 450 (.pointer (some (ad 5)))):=(vi (a:=⟨1,0,none⟩) (aJ S _ 0 V 1 (by have:=HL.o;omega))).trans SV
 have z0:V.cell? ⟨S,0,none⟩=some (.int .i64 0):=zK
 have z1:V.cell? ⟨S,1,none⟩=some (.int .i64 0):=zK
 have z2:V.cell? ⟨S,2,none⟩=some (.bool false):=zK
 have z3:V.cell? ⟨S,3,none⟩=some (.int .i64 0):=zK
 have z4:V.cell? ⟨S,4,none⟩=some (.int .i64 0):=zK
 have z5:V.cell? ⟨S,5,none⟩=some (.int .i64 0):=zK
 have z6:V.cell? ⟨S,6,none⟩=some (.int .i64 0):=zK
 have z7:V.cell? ⟨S,7,none⟩=some (.slice none 0 0):=zK
 have zf:∀o,V.frozen? ⟨S,o,none⟩=false:=fun o=>by simp [World.frozen?,Z4]
 have HIN:Aside (¬(0<=at_/\at_<(N.length:Int))):=hin
 clear Z4 hSc hin en m1
 go_enter func86,ntmps86
 go_upto_region 1 with fail
 rw [<-hU.o,<-hS.o]
 go_wp2_with fail
 refine hfl.mono ?_
 clear hfl
 rintro e w1 ⟨rfl,rfl⟩
 go_upto_region 2 with fail
 refine aM (S:=(fun w'=>w'.cell? ⟨1,0,none⟩=some (.iface 450 (.pointer (some (ad 5)))))) zk SD (fun hHeld=> ?_)
 rw [<-hV.o]
 clear hHeld
 have hHeld:=SV
 refine tk 0 hHeld ?_
 refine tk 1 hHeld ?_ (hy:=Or.inl ⟨zt,qH⟩)
 refine aZ (i:=2) zk rfl (fun kQ hK=> ?_)
 go_simp
 refine hK _ _ SW ?_
 clear hK kQ
 refine qn ?_
 refine aZ (i:=3) zk rfl (fun kQ hK=> ?_)
 go_simp
 refine hK _ _ SW ?_
 clear hK kQ
 refine wpAnyH_done zk ?_ _
 refine qn ?_
 clear SW SV SD hHeld
 go_wp2
 (try simp only [Exit.inBlock,Exit.then])
 refine bodyPost_ret (v:=.tuple #[.agg #[.int .i64 0,.int .i64 0,.bool false,.int .i64 0,.int .i64 0,.int .i64 0,.int .i64 0,.slice none 0 0],.iface 450 (.pointer (some (ad 5)))]) ?_ rfl (.inl ⟨HIN.o,rfl,?_⟩)
 ·exact kc4
 have hbV:Below w.heap.size w V:=by rw [hV.o];exact HM.o.2.2.2.1.drew
 exact aL (b:=S) hbV yL 0 [.int .i64 0,.int .i64 0,.bool false,.int .i64 0,.int .i64 0,.int .i64 0,.int .i64 0,.slice none 0 0]
end
section
open Go.RowKit Go.Lib Go.Sort Go.Maps
open scoped Classical
theorem fl {c:Nat->Nat->Nat} (w:World) (x:Int) (h:MeshAt gd B w ow n bm pv fv bp br d dv c K st N) (hE:EnvM B ad w) (ho:(-9223372036854775808<=x/\x<=9223372036854775807)):
  Calls prog 47 #[.pointer (some ⟨bm,0,none⟩),.int .i64 x] w fun e w'=>(¬(0<=x/\x<(n:Int))/\e= .returned (.tuple #[.pointer none,eV ad 2])/\Aside (Below w.heap.size w w'))\/(∃r:Nat,r<n/\x=(r:Int)/\e= .returned (.tuple #[.pointer (some ⟨bp r,0,none⟩),.nilIface])/\w'=w):=by
 have m0:=h.mesh.c0
 obtain ⟨po,pc,hpv⟩:=dV h.peers
 have eb:=hE.t.env.op4.c1
 by_cases hin:0<=x/\x<(n:Int)
 ·obtain ⟨r,rfl⟩:∃r:Nat,x=(r:Int):=⟨x.toNat,zj⟩
  have hr:r<n:=zj
  have hcell:∃g,po=some ⟨g,0,none⟩/\w.cell? ⟨g,r,none⟩=some (.pointer (some ⟨bp r,0,none⟩)):=by
   have hp:=h.peers
   rcases hp.2 with ⟨_,q⟩ | ⟨g,cap,cur,q,_⟩
   ·omega
   rw [hpv] at q
   cases q
   refine ⟨g,rfl,?_⟩
   rw [hpv] at hp
   rw [hp.cellAt r zj,lI bp hr]
  obtain ⟨g,rfl,r0⟩:=hcell
  have d0:decide ((r:Int)<0)=false:=zq
  have d1:decide ((n:Int)<=(r:Int))=false:=zl
  have d1n:decide (n<=r)=false:=zl
  have wk:((r:Int)).toNat=r:=zj
  have pk:(0:Int)<=(r:Int):=zj
  have bk:(r:Int)<(n:Int):=zj
  subst hpv
  clear h hE hin
  go_enter func47,ntmps47
  go_wp2
  go_ret2
  exact .inr ⟨r,hr,rfl,rfl,rfl⟩
 subst hpv
 have SD:w.drew.cell? ⟨0,0,none⟩=some (.iface 450 (.pointer (some (ad 1)))):=eb
 have HI:Aside (¬(0<=x/\x<(n:Int))):=hin
 clear h hE
 by_cases h0:x<0
 ·have d0:decide (x<0)=true:=by simp;omega
  exact kb5
 have d0:decide (x<0)=false:=zl
 have d1:decide ((n:Int)<=x)=true:=zl
 exact kb5
theorem gK {c:Nat->Nat->Nat} (w:World) (r:Nat) (hr:r<n) (h:MeshAt gd B w ow n bm pv fv bp br d dv c K st N) (hE:EnvM B ad w):
  Calls prog 18 #[.pointer (some ⟨bm,0,none⟩),.int .i64 (r:Int)] w fun e w'=>e= .returned (.tuple #[.pointer (some ⟨br r,0,none⟩),.nilIface])/\w'=w:=by
 have hf:=h.few
 have hp:=fl w (r:Int) h hE ⟨zj,zj⟩
 have p0:=(h.peer r hr).1.c0
 clear h hE
 go_enter func18,ntmps18
 go_wp2_with fail
 refine hp.mono ?_
 clear hp
 rintro e w1 (⟨q,_⟩ | ⟨r',hr',hrr,rfl,rfl⟩)
 ·exact absurd ⟨zj,zj⟩ q
 obtain rfl:r=r':=zj
 go_wp2
 go_ret2
 exact ki0
def PT (n:Nat) (ad:Nat->Addr) (K:Nat->Rws) (st:Nat->DSt) (N:List aO) (x y:Int) (v:Value) (K':Nat->Rws) (st':Nat->DSt) (N':List aO):Prop:=K'=K/\N'=N/\((¬(0<=x/\x<(n:Int))/\v=eV ad 2/\st'=st)\/∃r:Nat,r<n/\x=(r:Int)/\v=eV ad (AU (st r).2.1 y)/\st'=aN st r (kt (st r) y))
def OK (n:Nat) (ad:Nat->Addr) (K:Nat->Rws) (st:Nat->DSt) (N:List aO) (x:Int) (v:Value) (K':Nat->Rws) (st':Nat->DSt) (N':List aO):Prop:=N'=N/\((¬(0<=x/\x<(n:Int))/\v=eV ad 2/\K'=K/\st'=st)\/∃r:Nat,r<n/\x=(r:Int)/\v= .nilIface/\Gl K K' st st' r)
def EF (gd:Nat->Option Obj) (B n bm i:Nat) (G:List OpX) (K:Nat->Rws) (a:Nat->Prop) (Q:Value->(Nat->Rws)->(Nat->DSt)->List aO->Prop) (w:World) (e:Ending) (w':World):Prop:=∃(v:Value) (K':Nat->Rws) (D':Nat->List OpX) (st':Nat->DSt) (N':List aO),e= .returned v/\Aside (MeshS gd B n bm K' st' N' w'/\Below B w w'/\MeshI n i G K' D' st' N'/\N'.length<=30/\∀r,r<n->¬a r->∀x∈aX (K r),x∈aX (K' r))/\Aside (Q v K' st' N')
theorem Gq (w:World) (x y:Int) (h:MeshS gd B n bm K st N w) (hI:MeshI n i G K D st N) (hN:N.length<=30) (hE:EnvM B ad w) (hx:(-9223372036854775808<=x/\x<=9223372036854775807)) (hy:(-9223372036854775808<=y/\y<=9223372036854775807)):
  Calls prog 154 #[.pointer (some ⟨bm,0,none⟩),.int .i64 x,.int .i64 y] w (EF gd B n bm i G K (fun _=>False) (PT n ad K st N x y) w):=by
 obtain ⟨ow,pv,fv,bp,br,d,dv,c,hm⟩:=h
 have hp:=fl w x hm hE hx
 have HM:Aside (MeshAt gd B w ow n bm pv fv bp br d dv c K st N/\MeshI n i G K D st N/\EnvM B ad w):=⟨hm,hI,hE⟩
 clear hm hI hE
 go_enter func154,ntmps154
 go_wp2_with fail
 refine hp.mono ?_
 clear hp
 rintro e w1 (⟨q,rfl,HB⟩ | ⟨r,hr,rfl,rfl,rfl⟩)
 ·rw [aw (show (2:Nat)≠0 by omega)]
  have HQ:Aside (¬(0<=x/\x<(n:Int))):=q
  clear q
  go_wp2
  go_ret
  exact ⟨_,K,D,st,N,rfl,⟨⟨_,_,_,_,_,_,_,_,HM.o.1.later HB.o⟩,HB.o.mono HM.o.1.base,HM.o.2.1,hN,fun r _ _ x hx=>hx⟩,rfl,rfl,.inl ⟨HQ.o,by rw [aw (show (2:Nat)≠0 by omega)];rfl,rfl⟩⟩
 have p1:=(HM.o.1.peer r hr).1.c1
 have hdk:=HM.o.1.disk r hr
 obtain ⟨B0,off,waits,left⟩:DSt:=st r
 have hc:=fun (q:DSt) (e:st r=q)=>KM (ad:=ad) (B:=q.1) (off:=q.2.1) (waits:=q.2.2.1) (left:=q.2.2.2) w1 y (by have:=hdk.1;rw [e] at this;exact this) HM.o.2.2.j.here.errd hy.2
 have hc':=hc (st r) rfl
 clear hc
 go_wp2_with fail
 refine hc'.mono ?_
 clear hc' p1
 rintro e w2 ⟨rfl,H2⟩
 obtain ⟨dv',hm2,hk2⟩:=HM.o.1.diskAct (st':=kt (st r) y) hr ⟨dv r,H2.o.1,H2.o.2.mono (fun k _ e=>.inl e),fun g hg=>.inl hg⟩
 have HF:Aside (MeshS gd B n bm K (aN st r (kt (st r) y)) N w2/\Below B w1 w2):=⟨⟨_,_,_,_,_,_,_,_,hm2⟩,HM.o.1.below hk2 (fun k e=>by have e':ow k=20+r:=e;omega)⟩
 clear hm2 hk2 H2 hdk
 obtain ⟨ev,hev⟩:=ze (eV ad (AU (st r).2.1 y))
 rw [<-hev.o]
 go_wp2
 go_ret
 exact ⟨_,K,D,_,N,rfl,⟨HF.o.1,HF.o.2,HM.o.2.1.cut hr y,hN,fun r _ _ x hx=>hx⟩,rfl,rfl,.inr ⟨r,hr,rfl,hev.o,rfl⟩⟩
theorem Dy (w:World) (x:Int) (h:MeshS gd B n bm K st N w) (hI:MeshI n i G K D st N) (hN:N.length<=30) (hE:EnvM B ad w) (hi:i<=155) (hx:(-9223372036854775808<=x/\x<=9223372036854775807)):
  Calls prog 155 #[.pointer (some ⟨bm,0,none⟩),.int .i64 x] w (EF gd B n bm i G K (fun r=>x=(r:Int)) (OK n ad K st N x) w):=by
 obtain ⟨ow,pv,fv,bp,br,d,dv,c,hm⟩:=h
 have hp:=fl w x hm hE hx
 have HM:Aside (MeshAt gd B w ow n bm pv fv bp br d dv c K st N/\MeshI n i G K D st N/\EnvM B ad w):=⟨hm,hI,hE⟩
 clear hm hI hE
 go_enter func155,ntmps155
 go_wp2_with fail
 refine hp.mono ?_
 clear hp
 rintro e w1 (⟨q,rfl,HB⟩ | ⟨r,hr,rfl,rfl,rfl⟩)
 ·rw [aw (show (2:Nat)≠0 by omega)]
  have HQ:Aside (¬(0<=x/\x<(n:Int))):=q
  clear q
  go_wp2
  go_ret
  exact ⟨_,K,D,st,N,rfl,⟨⟨_,_,_,_,_,_,_,_,HM.o.1.later HB.o⟩,HB.o.mono HM.o.1.base,HM.o.2.1,hN,fun r _ _ x hx=>hx⟩,rfl,.inl ⟨HQ.o,by rw [aw (show (2:Nat)≠0 by omega)];rfl,rfl,rfl⟩⟩
 have hb:=Fj w1 r HM.o.1 HM.o.2.1 HM.o.2.2 hr hi
 go_wp2_with fail
 refine hb.mono ?_
 clear hb
 rintro e w2 ⟨K',st',rfl,H2⟩
 go_wp2
 go_ret
 exact ⟨_,K',D,st',N,rfl,⟨H2.o.1,H2.o.2.1,H2.o.2.2.1,hN,fun q _ hq x hx=>by rw [H2.o.2.2.2.1 q (fun e=>hq qR)];exact hx⟩,rfl,.inr ⟨r,hr,rfl,rfl,H2.o.2.2.2.2⟩⟩
def Mi (gd:Nat->Option Obj) (B n bm i:Nat) (ad:Nat->Addr) (G:List OpX) (K:Nat->Rws) (st:Nat->DSt) (N:List aO) (P:Nat->OpX->Nat->Prop) (x:Int) (w:World) (e:Ending) (w':World):Prop:=∃(y:OpX) (cd:Nat) (G':List OpX) (K':Nat->Rws) (D':Nat->List OpX) (st':Nat->DSt) (N':List aO),e= .returned (.tuple #[ar y,eV ad cd])/\Aside (MeshS gd B n bm K' st' N' w'/\Below B w w'/\MeshI n (i+1) G' K' D' st' N'/\N'.length<=30/\(∀r,r<n->∀x∈aX (K r),x∈aX (K' r))/\((cd≠0/\G'=G)\/(cd=0/\G'=G++ [y]/\byO y=x/\0<=x/\x<(n:Int)))/\(∀r:Nat,x=(r:Int)->r<n->∃y0 cd0,P r y0 cd0/\(cd0=0->(st r).2.1=false->(st r).2.2.1=false->cd=0/\y=y0)/\DoX K K' st st' r y0 cd0 y cd)/\(∀r:Nat,x≠(r:Int)->K' r=K r/\st' r=st r)/\N'=N)
theorem IC {gd:Nat->Option Obj} {B:Nat} {ad:Nat->Addr} {n bm:Nat} {K:Nat->Rws} {st:Nat->DSt} {N:List aO} {i:Nat} {G:List OpX} {D:Nat->List OpX} (w:World) (x:Int) (y:OpX) (h:MeshS gd B n bm K st N w) (hI:MeshI n i G K D st N) (hN:N.length<=30) (hE:EnvM B ad w) (hi:i<=155) (hx:(-9223372036854775808<=x/\x<=9223372036854775807)) (P:Nat->OpX->Nat->Prop) (hnx0:∀(U:World) (c0:Nat->Nat) (p b0 d0 r:Nat),r<n->x=(r:Int)->PeerC U p b0 d0->RepOwn B U c0 b0 (r:Int) (K r)->EnvM B ad U->Calls prog 270 #[.pointer (some ⟨p,0,none⟩),ar y] U (IR ad U (K r) r (P r))):
  Calls prog 156 #[.pointer (some ⟨bm,0,none⟩),.int .i64 x,ar y] w (Mi gd B n bm i ad G K st N P x w):=by
 obtain ⟨ow,pv,fv,bp,br,d,dv,c,hm⟩:=h
 obtain ⟨t,b,m,kd,nd,o,s,v⟩:=y
 obtain ⟨S,hS⟩:=ze w.heap.size
 obtain ⟨U,hU⟩:=ze ((w.alloc (.cells #[.int .i64 t,.int .i64 b,.int .i64 m,.int .u8 (kd:Int),.int .i64 nd,.int .i64 o,.string s,.string v] 61)).alloc (.cells #[.int .i64 0,.int .i64 0,.int .i64 0,.int .u8 0,.int .i64 0,.int .i64 0,.string ⟨#[]⟩,.string ⟨#[]⟩] 61))
 have hbU:Below w.heap.size w U:=xX
 have O0:OpBlk U S (t,b,m,kd,nd,o,s,v):=by rw [hU.o,hS.o];exact (jV _ _ _ zq).trans (OpBlk.new w (t,b,m,kd,nd,o,s,v))
 have Z0:OpBlk U (S+1) aT:=by
  rw [hU.o,hS.o]
  have:=OpBlk.new (w.alloc (.cells #[.int .i64 t,.int .i64 b,.int .i64 m,.int .u8 (kd:Int),.int .i64 nd,.int .i64 o,.string s,.string v] 61)) aT
  exact kc8
 have hmU:=hm.later hbU
 have hEU:=hE.later hbU
 have hp:=fl U x hmU hEU hx
 have HM:Aside (MeshAt gd B w ow n bm pv fv bp br d dv c K st N/\MeshI n i G K D st N/\EnvM B ad w/\MeshAt gd B U ow n bm pv fv bp br d dv c K st N/\Below w.heap.size w U/\OpBlk U S (t,b,m,kd,nd,o,s,v)/\OpBlk U (S+1) aT/\EnvM B ad U/\ow (S+1)=0/\B<=S):=⟨hm,hI,hE,hmU,hbU,O0,Z0,hEU,hm.high _ (by rw [hS.o];omega),by rw [hS.o];exact hm.base⟩
 have HNX:Aside (∀(U:World) (c0:Nat->Nat) (p b0 d0 r:Nat),r<n->x=(r:Int)->PeerC U p b0 d0->RepOwn B U c0 b0 (r:Int) (K r)->EnvM B ad U->Calls prog 270 #[.pointer (some ⟨p,0,none⟩),ar (t,b,m,kd,nd,o,s,v)] U (IR ad U (K r) r (P r))):=hnx0
 clear hm hI hE hbU O0 Z0 hmU hEU hnx0
 unfold ar
 dsimp only
 go_enter func156,ntmps156
 go_upto_region 1 with fail
 rw [<-hU.o,<-hS.o]
 go_wp2_with fail
 refine hp.mono ?_
 clear hp
 rintro e w1 (⟨q,rfl,HB⟩ | ⟨r,hr,rfl,rfl,rfl⟩)
 ·rw [aw (show (2:Nat)≠0 by omega)]
  have HQ:Aside (¬(0<=x/\x<(n:Int))):=q
  clear q
  have Z1:=HM.o.2.2.2.2.2.2.1.later HB.o
  obtain ⟨z0,z1,z2,z3,z4,z5,z6,z7,zf⟩:=Z1.cells
  unfold aT at z0 z1 z2 z3 z4 z5 z6 z7
  dsimp only at z0 z1 z2 z3 z4 z5 z6 z7
  clear Z1
  go_wp2
  (try simp only [Exit.inBlock,Exit.then])
  refine bodyPost_ret (v:=.tuple #[.agg #[.int .i64 0,.int .i64 0,.int .i64 0,.int .u8 0,.int .i64 0,.int .i64 0,.string ⟨#[]⟩,.string ⟨#[]⟩],.iface 450 (.pointer (some (ad (2 - 1))))]) ?_ rfl ?_
  ·exact kc4
  have hk7:=aY (S+1) [.int .i64 0,.int .i64 0,.int .i64 0,.int .u8 0,.int .i64 0,.int .i64 0,.string ⟨#[]⟩,.string ⟨#[]⟩] 0 w1
  have hm1:=HM.o.2.2.2.1.later HB.o
  exact ⟨aT,2,G,K,D,st,N,rfl,⟨_,_,_,_,_,_,_,_,hm1.still hk7 (fun k e=>by have e':k=S+1:=e;rw [e'];exact HM.o.2.2.2.2.2.2.2.2.1)⟩,((HM.o.2.2.2.2.1.mono HM.o.1.base).trans (HB.o.mono HM.o.2.2.2.1.base)).trans (hk7.below hm1.base (fun k e=>xm)),HM.o.2.1.up zj,hN,fun r _ x hx=>hx,.inl ⟨zj,rfl⟩,fun r e hr=>absurd ⟨zj,zj⟩ HQ.o,fun r _=>⟨rfl,rfl⟩,rfl⟩
 have hd:=NX w1 r (t,b,m,kd,nd,o,s,v) HM.o.2.2.2.1 HM.o.2.1 HM.o.2.2.2.2.2.2.2.1 hr hi (P r) (fun W hW=>HNX.o W (c r) (bp r) (br r) (d r) r hr rfl ((HM.o.2.2.2.1.later hW).peer r hr).1 ((HM.o.2.2.2.1.later hW).rep r hr).1 (HM.o.2.2.2.2.2.2.2.1.later hW))
 unfold ar at hd
 dsimp only at hd
 obtain ⟨j0,j1,j2,j3,j4,j5,j6,j7,-⟩:=HM.o.2.2.2.2.2.1.cells
 dsimp only at j0 j1 j2 j3 j4 j5 j6 j7
 go_wp2_with fail
 refine hd.mono ?_
 clear hd j0 j1 j2 j3 j4 j5 j6 j7
 rintro e w2 ⟨⟨t',b',m',kd',nd',o',s',v'⟩,cd,G',K',D',st',rfl,H2⟩
 unfold ar
 dsimp only
 obtain ⟨ow',pv',fv',bp',br',d',dv',c',hm2,hlone⟩:=H2.o.1
 have hSl:=HM.o.2.2.2.2.2.2.1.lt
 have hS0:=hlone (S+1) hSl HM.o.2.2.2.2.2.2.2.2.1
 have Z2:OpBlk w2 (S+1) aT:=hS0.2.trans HM.o.2.2.2.2.2.2.1
 obtain ⟨z0,z1,z2,z3,z4,z5,z6,z7,zf⟩:=Z2.cells
 unfold aT at z0 z1 z2 z3 z4 z5 z6 z7
 dsimp only at z0 z1 z2 z3 z4 z5 z6 z7
 have H3:Aside (MeshAt gd B w2 ow' n bm pv' fv' bp' br' d' dv' c' K' st' N/\ow' (S+1)=0):=⟨hm2,hS0.1⟩
 obtain ⟨er,her⟩:=ze (eV ad cd)
 rw [<-her.o]
 clear hm2 hlone hSl hS0 Z2
 go_wp2
 (try simp only [Exit.inBlock,Exit.then])
 refine bodyPost_ret (v:=.tuple #[.agg #[.int .i64 t',.int .i64 b',.int .i64 m',.int .u8 (kd':Int),.int .i64 nd',.int .i64 o',.string s',.string v'],er]) ?_ rfl ?_
 ·exact kc4
 have hk7:=aY (S+1) [.int .i64 t',.int .i64 b',.int .i64 m',.int .u8 (kd':Int),.int .i64 nd',.int .i64 o',.string s',.string v'] 0 w2
 exact ⟨(t',b',m',kd',nd',o',s',v'),cd,G',K',D',st',N,by rw [<-her.o];rfl,⟨_,_,_,_,_,_,_,_,H3.o.1.still hk7 (fun k e=>by have e':k=S+1:=e;rw [e'];exact H3.o.2)⟩,((HM.o.2.2.2.2.1.mono HM.o.1.base).trans H2.o.2.1).trans (hk7.below H3.o.1.base (fun k e=>xm)),H2.o.2.2.1,hN,H2.o.2.2.2.1,H2.o.2.2.2.2.1.imp id (fun q=>⟨q.1,q.2.1,q.2.2,zj,zj⟩),fun r' e hr'=>by obtain rfl:r=r':=zj;obtain ⟨a1,a2,a3,a4,_,a6⟩:=H2.o.2.2.2.2.2;exact ⟨a1,a2,a3,a4,a6⟩,fun r' e=>by obtain ⟨_,_,_,_,a5,_⟩:=H2.o.2.2.2.2.2;exact a5 r' (fun q=>e (by rw [q])),rfl⟩
end
section
open Go.RowKit Go.Lib Go.Sort Go.Maps
open scoped Classical
def mp (a b:Nat) (v:Nat->Int):aO:=(a,b,true,v,none,0,[])
def Kq (gd:Nat->Option Obj) (B n bm:Nat) (ad:Nat->Addr) (K:Nat->Rws) (st:Nat->DSt) (N:List aO) (at_:Int) (w:World) (e:Ending) (w':World):Prop:=(¬(0<=at_/\at_<(N.length:Int))/\(∃t v,e= .returned (.iface t v)/\Value.iface t v=eV ad 6)/\Aside (MeshS gd B n bm K st N w'/\Below B w w'))\/(∃k:Nat,at_=(k:Int)/\k<N.length/\e= .returned .nilIface/\Aside (MeshS gd B n bm K st (N.eraseIdx k) w'/\Below B w w'))
theorem Gk (w:World) (at_:Int) (h:MeshS gd B n bm K st N w) (hE:EnvM B ad w) (hN:N.length<=30) (ho:(-9223372036854775808<=at_/\at_<=9223372036854775807)):
  Calls prog 153 #[.pointer (some ⟨bm,0,none⟩),.int .i64 at_] w (Kq gd B n bm ad K st N at_ w):=by
 obtain ⟨ow,pv,fv,bp,br,d,dv,c,hm⟩:=h
 have ht:=AE w at_ hm hE hN ho
 have HM:Aside (MeshAt gd B w ow n bm pv fv bp br d dv c K st N/\EnvM B ad w):=⟨hm,hE⟩
 clear hm hE
 go_enter func153,ntmps153
 go_wp2_with fail
 refine ht.mono ?_
 clear ht
 rintro e w1 (⟨q,rfl,HB⟩ | ⟨k,⟨x1,x2,x3,x4,x5,x6,x7⟩,rfl,hk,rfl,HT⟩)
 ·have HQ:Aside (¬(0<=at_/\at_<(N.length:Int))):=q
  rw [aw (show (6:Nat)≠0 by omega)]
  clear q
  go_wp2
  go_ret
  have hb:Below w.heap.size w (w1.alloc (.cells #[.int .i64 0,.int .i64 0,.bool false,.int .i64 0,.int .i64 0,.int .i64 0,.int .i64 0,.slice none 0 0] 175)):=HB.o.alloc HB.o.size _
  exact .inl ⟨HQ.o,⟨_,_,rfl,(aw (show (6:Nat)≠0 by omega)).symm⟩,⟨_,_,_,_,_,_,_,_,HM.o.1.later hb⟩,hb.mono HM.o.1.base⟩
 unfold Jn lE
 dsimp only
 go_wp2
 go_ret
 obtain ⟨_,ow',fv',hm',hn',hb'⟩:=HT.o
 have hb:Below w1.heap.size w1 (w1.alloc (.cells #[.int .i64 (x1:Int),.int .i64 (x2:Int),.bool x3,.int .i64 (x4 0),.int .i64 (x4 1),.int .i64 (x4 2),.int .i64 (x4 3),.slice x5 x7.length x6] 175)):=zh w1 _
 exact .inr ⟨k,rfl,hk,rfl,⟨_,_,_,_,_,_,_,_,hm'.later hb⟩,hb'.trans (hb.mono hm'.base)⟩
def Ma (ad:Nat->Addr) (N:List aO) (at_:Int) (v:Value) (N':List aO):Prop:=(¬(0<=at_/\at_<(N.length:Int))/\v=eV ad 6/\N'=N)\/∃(k:Nat) (x:aO),at_=(k:Int)/\N[k]? =some x/\((N.length<30/\v= .nilIface/\N'=N++ [x])\/(30<=N.length/\v=eV ad 8/\N'=N))
def IU (gd:Nat->Option Obj) (B n bm:Nat) (ad:Nat->Addr) (K:Nat->Rws) (st:Nat->DSt) (N:List aO) (at_:Int) (w:World) (e:Ending) (w':World):Prop:=∃(v:Value) (N':List aO),e= .returned v/\Aside (MeshS gd B n bm K st N' w'/\Below B w w'/\N'.length<=30/\∀x∈N',x∈N)/\Aside (Ma ad N at_ v N')
theorem Dt (w:World) (at_:Int) (h:MeshS gd B n bm K st N w) (hE:EnvM B ad w) (hN:N.length<=30) (ho:(-9223372036854775808<=at_/\at_<=9223372036854775807)):
  Calls prog 152 #[.pointer (some ⟨bm,0,none⟩),.int .i64 at_] w (IU gd B n bm ad K st N at_ w):=by
 obtain ⟨ow,pv,fv,bp,br,d,dv,c,hm⟩:=h
 obtain ⟨fo,fc,hfv⟩:=dV hm.fly
 subst hfv
 have m1:=hm.mesh.c1
 have en:=hE.t.env.c5
 have hfl:=rP w at_ hm.mesh ho
 have HM:Aside (MeshAt gd B w ow n bm pv (.slice fo N.length fc) bp br d dv c K st N/\EnvM B ad w):=⟨hm,hE⟩
 clear hm hE
 by_cases hin:0<=at_/\at_<(N.length:Int)
 ·obtain ⟨k,rfl⟩:∃k:Nat,at_=(k:Int):=⟨at_.toNat,zj⟩
  have hk:k<N.length:=zj
  rw [decide_eq_true hin] at hfl
  obtain ⟨⟨x1,x2,x3,x4,x5,x6,x7⟩,hx⟩:∃x,Aside (N[k]? =some x):=⟨N[k],jK hk⟩
  have hsd:=pX w (x1,x2,x3,x4,x5,x6,x7) HM.o.1 HM.o.2 (HM.o.1.notes _ (jT hx.o))
  unfold Jn lE at hsd
  dsimp only at hsd
  obtain ⟨blk,off,rfl,hc⟩:=nY HM.o.1.fly hx.o
  have r0:=hc 0 _ rfl
  have r1:=hc 1 _ rfl
  have r2:=hc 2 _ rfl
  have r3:=hc 3 _ rfl
  have r4:=hc 4 _ rfl
  have r5:=hc 5 _ rfl
  have r6:=hc 6 _ rfl
  have r7:=hc 7 _ rfl
  simp only [vI] at r0
  dsimp only at r0 r1 r2 r3 r4 r5 r6 r7
  unfold lE at r7
  dsimp only at r7
  have wk:((k:Int)).toNat=k:=zj
  have pk:(0:Int)<=(k:Int):=zj
  have bk:(k:Int)<(N.length:Int):=zj
  clear hc hin
  go_enter func152,ntmps152
  go_wp2_with fail
  refine hfl.mono ?_
  clear hfl
  rintro e w1 ⟨rfl,rfl⟩
  go_wp2_with fail
  refine hsd.mono ?_
  clear hsd
  rintro e w2 (⟨h30,rfl,HB⟩ | ⟨h30,rfl,HB⟩)
  ·rw [aw (show (8:Nat)≠0 by omega)]
   go_wp2
   go_ret
   exact ⟨_,N,rfl,⟨⟨_,_,_,_,_,_,_,_,HM.o.1.later HB.o⟩,HB.o.mono HM.o.1.base,hN,fun x hx=>hx⟩,.inr ⟨k,_,rfl,hx.o,.inr ⟨h30,(aw (show (8:Nat)≠0 by omega)).symm,rfl⟩⟩⟩
  go_wp2
  go_ret
  obtain ⟨fv',ow',hm',hb'⟩:=HB.o
  refine ⟨_,_,rfl,⟨⟨_,_,_,_,_,_,_,_,hm'⟩,hb',by rw [jP];simp;omega,fun x hx'=> ?_⟩,.inr ⟨k,_,rfl,hx.o,.inl ⟨h30,rfl,rfl⟩⟩⟩
  rcases jO.1 hx' with q | q
  ·exact q
  rw [jS.1 q];exact jT hx.o
 rw [decide_eq_false hin] at hfl
 have HQ:Aside (¬(0<=at_/\at_<(N.length:Int))):=hin
 clear hin
 go_enter func152,ntmps152
 go_wp2_with fail
 refine hfl.mono ?_
 clear hfl
 rintro e w1 ⟨rfl,rfl⟩
 go_wp2
 go_ret
 exact ⟨_,N,rfl,⟨⟨_,_,_,_,_,_,_,_,HM.o.1⟩,jN _ _,hN,fun x hx=>hx⟩,.inl ⟨HQ.o,(aw (show (6:Nat)≠0 by omega)).symm,rfl⟩⟩
def Ib (n m:Nat) (x y:Int):Nat:=if (0<=x/\x<(n:Int))/\(0<=y/\y<(n:Int))/\x≠y then (if m<30 then 0 else 8) else 2
def ND (gd:Nat->Option Obj) (B n bm:Nat) (ad:Nat->Addr) (K:Nat->Rws) (st:Nat->DSt) (N:List aO) (x y:Int) (w:World) (e:Ending) (w':World):Prop:=∃(v:Value) (N':List aO),e= .returned v/\Aside (MeshS gd B n bm K st N' w'/\Below B w w'/\((v= .nilIface/\N.length<30/\∃a b:Nat,a<n/\b<n/\a≠b/\x=(a:Int)/\y=(b:Int)/\N'=N++ [mp a b (dY (K a))])\/(N'=N/\¬((0<=x/\x<(n:Int))/\(0<=y/\y<(n:Int))/\x≠y/\N.length<30))))/\Aside (v=eV ad (Ib n N.length x y))
theorem pO (w:World) (x y:Int) (h:MeshS gd B n bm K st N w) (hE:EnvM B ad w) (hK:∀r,r<n->(aX (K r)).length<=1000) (hx:(-9223372036854775808<=x/\x<=9223372036854775807)) (hy:(-9223372036854775808<=y/\y<=9223372036854775807)):
  Calls prog 85 #[.pointer (some ⟨bm,0,none⟩),.int .i64 x,.int .i64 y] w (ND gd B n bm ad K st N x y w):=by
 obtain ⟨ow,pv,fv,bp,br,d,dv,c,hm⟩:=h
 have hp:=fl w x hm hE hx
 have HM:Aside (MeshAt gd B w ow n bm pv fv bp br d dv c K st N/\EnvM B ad w):=⟨hm,hE⟩
 clear hm hE
 go_enter func85,ntmps85
 go_wp2_with fail
 refine hp.mono ?_
 clear hp
 rintro e w1 (⟨q,rfl,HB⟩ | ⟨r,hr,rfl,rfl,rfl⟩)
 ·have HQ:Aside (¬(0<=x/\x<(n:Int))):=q
  rw [aw (show (2:Nat)≠0 by omega)]
  clear q
  go_wp2
  go_ret
  exact ⟨_,N,rfl,⟨⟨_,_,_,_,_,_,_,_,HM.o.1.later HB.o⟩,HB.o.mono HM.o.1.base,.inr ⟨rfl,fun q=>HQ.o q.1⟩⟩,by unfold Ib;rw [if_neg (fun q=>HQ.o q.1),aw (show (2:Nat)≠0 by omega)];rfl⟩
 have hp2:=fl w1 y HM.o.1 HM.o.2 hy
 go_wp2_with fail
 refine hp2.mono ?_
 clear hp2
 rintro e w2 (⟨q,rfl,HB⟩ | ⟨s,hs,rfl,rfl,rfl⟩)
 ·have HQ:Aside (¬(0<=y/\y<(n:Int))):=q
  rw [aw (show (2:Nat)≠0 by omega)]
  clear q
  go_wp2
  go_ret
  exact ⟨_,N,rfl,⟨⟨_,_,_,_,_,_,_,_,HM.o.1.later HB.o⟩,HB.o.mono HM.o.1.base,.inr ⟨rfl,fun q=>HQ.o q.2.1⟩⟩,by unfold Ib;rw [if_neg (fun q=>HQ.o q.2.1),aw (show (2:Nat)≠0 by omega)];rfl⟩
 by_cases hrs:r=s
 ·subst hrs
  have dq:((r:Int)==(r:Int))=true:=zq
  have eb:=HM.o.2.t.env.op4.c1
  go_wp2
  go_ret
  exact ⟨_,N,rfl,⟨⟨_,_,_,_,_,_,_,_,HM.o.1⟩,jN _ _,.inr ⟨rfl,fun q=>q.2.2.1 rfl⟩⟩,by unfold Ib;rw [if_neg (fun q=>q.2.2 rfl),aw (show (2:Nat)≠0 by omega)];rfl⟩
 have dq:((r:Int)==(s:Int))=false:=zM
 have dq2:decide ((r:Int)=(s:Int))=false:=zJ
 have p0:=(HM.o.1.peer r hr).1.c0
 have hvec:=lF w2 (c r) (br r) (r:Int) (K r) (HM.o.1.rep r hr).1.rep (hK r hr)
 have HRS:Aside (r≠s):=hrs
 clear hrs
 go_wp2_with fail
 refine hvec.mono ?_
 clear hvec p0
 rintro e w3 ⟨rfl,hb3⟩
 have hsd:=pX w3 (mp r s (dY (K r))) (HM.o.1.later hb3) (HM.o.2.later hb3) ⟨hr,hs,.inl ⟨rfl,rfl⟩,fun g hg=>qI⟩
 unfold Jn lE mp dY at hsd
 dsimp only [List.length_nil] at hsd
 have HB3:Aside (Below w2.heap.size w2 w3):=hb3
 clear hb3
 go_wp2_with fail
 refine hsd.mono ?_
 clear hsd
 rintro e w4 (⟨h30,rfl,HB⟩ | ⟨h30,rfl,HB⟩)
 ·rw [aw (show (8:Nat)≠0 by omega)]
  go_wp2
  go_ret
  have hb4:Below w2.heap.size w2 w4:=zi HB3.o HB.o
  exact ⟨_,N,rfl,⟨⟨_,_,_,_,_,_,_,_,HM.o.1.later hb4⟩,hb4.mono HM.o.1.base,.inr ⟨rfl,fun q=>zj⟩⟩,by unfold Ib;rw [if_pos ⟨⟨zj,zj⟩,⟨zj,zj⟩,fun q=>HRS.o zj⟩,if_neg zj,aw (show (8:Nat)≠0 by omega)];rfl⟩
 go_wp2
 go_ret
 obtain ⟨fv',ow',hm',hb'⟩:=HB.o
 exact ⟨_,_,rfl,⟨⟨_,_,_,_,_,_,_,_,hm'⟩,(HB3.o.mono HM.o.1.base).trans hb',.inl ⟨rfl,h30,r,s,hr,hs,HRS.o,rfl,rfl,rfl⟩⟩,by unfold Ib;rw [if_pos ⟨⟨zj,zj⟩,⟨zj,zj⟩,fun q=>HRS.o zj⟩,if_pos h30];rfl⟩
end
section
open Go.Shelf Go.RowKit Go.Lib Go.Sort Go.Maps
open scoped Classical
def aj (qs:List Plc):List Int:=0::qs.map (·.1)
def dl (A:List OpX) (qs:List Plc):Prop:=∃ms,ms.Perm (eu A)/\bL ms/\IsPlaces (aH ms) qs
def wB (w:World) (R:Rws) (e:Ending) (w':World):Prop:=∃(g cap:Nat) (qs:List Plc),e= .returned (.slice (some ⟨g,0,none⟩) (aj qs).length cap)/\Aside (NumsAt w' g 0 (aj qs)/\Below w.heap.size w w'/\dl (aX R) qs/\qs.length<=1000/\∀p∈qs,FineP p)
theorem Ki {g cap:Nat} {xs:List Int} (h:w.ownsRow B 3 1 (.slice (some ⟨g,0,none⟩) xs.length cap) xs.length (aB eL xs)):NumsAt w g 0 xs:=fun i x hx=>by
 have hi:=(jI.1 hx).1
 have hf:(aB eL xs).length=xs.length:=by
  rw [aa (k:=1) (fun _=>rfl)];omega
 have:=h.cellAt i zj
 rw [vh,this]
 have e:=bd (enc:=eL) (k:=1) (fun _=>rfl) hx (c:=0) zj
 rw [Nat.mul_one,vI] at e
 rw [e]
 rfl
theorem Lp (w:World) (x:Int):(w.alloc (.cells #[.int .i64 x] 3)).ownsRow w.heap.size 3 1 (.slice (some ⟨w.heap.size,0,none⟩) 1 1) 1 (aB eL [x]):=
 ⟨rfl,.inr ⟨w.heap.size,1,#[.int .i64 x],rfl,jL _,heap_alloc_new w _,jL _,zu,rfl,rfl⟩⟩
theorem Iu {X:World} {S:Nat} {v:Value} {xs:List Value} (h:X.ownsRow S 3 1 v n xs) (hS:S<=X.heap.size) (x:Int) (hn:n<=4000):
  ∃v' w',(Builtin.append_ #[42,42] 42 #[v,.slice (some ⟨X.heap.size,0,none⟩) 1 1]).run prog (X.alloc (.cells #[.int .i64 x] 3))= .ok v' w'/\Aside (w'.ownsRow S 3 1 v' (n+1) (xs++ [.int .i64 x])/\Below S X w'/\(∀k,k<X.heap.size->v.ownBlock≠some k->w'.heap[k]? =X.heap[k]?)/\∀g,v'.ownBlock=some g->v.ownBlock=some g\/X.heap.size<=g):=by
 obtain ⟨i0,hi0,hz0,hz1,hz2⟩:=info_parts GW
 have hb:Below X.heap.size X (X.alloc (.cells #[.int .i64 x] 3)):=zh X _
 have h':(X.alloc (.cells #[.int .i64 x] 3)).ownsRow S 3 1 v n xs:=au h (fun k hk=>hb.block k (h.lt k hk).2)
 obtain ⟨v',w',hrun,hown,hgrow,hcase⟩:=dZ (P:=prog) (X.alloc (.cells #[.int .i64 x] 3)) S 42 42 3 i0 _ 1 8 underlying42 hi0 hz0 hz1 hz2 rfl zj v n xs h' ⟨X.heap.size,0,none⟩ 1 1 zj [.int .i64 x] rfl
  (ui (cs:= #[.int .i64 x]) (t:=3) (fr:=(0,0)) (heap_alloc_new X _)) (fun u hu=>by rw [jS.1 hu];rfl) zu zj (jM hS hb.size)
 refine ⟨v',w',hrun,hown,?_,fun k hk hne=> ?_,fun g hg=> ?_⟩
 ·exact (hb.mono hS).grown hgrow (jM hS hb.size) (fun k hk=>(h.lt k hk).1)
 ·rw [hgrow.block k qV (fun q=>hne q.symm),jV _ _ _ hk]
 rcases hcase with ⟨g',cp,e1,e2⟩ | ⟨e1,_⟩
 ·left;rw [e2] at hg;rw [e1];exact hg
 right
 exact kk4
theorem tu {c:Nat->Nat->Nat} (w:World) (r:Nat) (hr:r<n) (h:MeshAt gd B w ow n bm pv fv bp br d dv c K st N) (hE:EnvM B ad w) (hl:(aX (K r)).length<=300):
  Calls prog 158 #[.pointer (some ⟨bm,0,none⟩),.int .i64 (r:Int)] w (wB w (K r)):=by
 obtain ⟨V,hV⟩:=ze (w.alloc (.cells #[.int .i64 0] 3))
 obtain ⟨q,hq⟩:=ze w.heap.size
 have hbV:Below w.heap.size w V:=by rw [hV.o];exact zh w _
 have hm:=h.later hbV
 have hrep:=gK V r hr hm (hE.later hbV)
 obtain ⟨T,kv,bt,bx,bc,A,hM,hp,_⟩:=(hm.rep r hr).1.rep
 obtain ⟨bmt,tv,ms,hTA,hms,_⟩:=hM.tree
 obtain ⟨nm,hnm,hMap⟩:=hTA.map
 have c6:=hM.cell.c6
 have HP:Aside (ms.Perm (eu (aX (K r)))/\bL ms/\ms.length<=300):=⟨hms.trans (hp.filterMap _),hTA.by_,by
  rw [(hms.trans (hp.filterMap _)).length_eq]
  exact jM (uW _ _) hl⟩
 have hpl:=nB V bt bmt nm tv (aH ms) hTA.good hTA.cell hMap (by have:=HP.o.2.2;omega)
 have H0:Aside (Below w.heap.size w V/\V.ownsRow w.heap.size 3 1 (.slice (some ⟨q,0,none⟩) 1 1) 1 (aB eL [0])):=⟨hbV,by rw [hV.o,hq.o];exact Lp w 0⟩
 have ht:Calls prog 214 #[.pointer (some ⟨br r,0,none⟩)] V fun e w'=>e= .returned (.pointer (some ⟨bt,0,none⟩))/\w'=V:=by
  clear hrep hpl HP H0 hbV hm
  go_enter func214,ntmps214
  exact ka9
 have HGd:Aside (ko (aH ms)):=hTA.good
 clear hbV hm h hE hM hp hTA hms hMap c6
 go_enter func158,ntmps158
 go_upto_region 2 with fail
 rw [<-hV.o,<-hq.o]
 go_wp2_with fail
 refine hrep.mono ?_
 clear hrep
 rintro e w1 ⟨rfl,rfl⟩
 go_wp2_with fail
 refine ht.mono ?_
 clear ht
 rintro e w2 ⟨rfl,rfl⟩
 go_wp2_with fail
 refine hpl.mono ?_
 clear hpl
 rintro e w3 ⟨u,qs,rfl,hqs,hql,hu,hb3,hfr⟩
 obtain ⟨ao,cap,rfl,hPI⟩:=hu.isIn
 have hq3:qs.length<=300:=by
  obtain ⟨L',h1,h2⟩:=pr ms
  rw [hqs.unique h1]
  exact jM h2 HP.o.2.2
 have hPb:qs= []\/∃g,g≠q/\g<w3.heap.size/\∃off,ao=some ⟨g,off,none⟩/\∀j u,(aB ai qs)[j]? =some u->w3.cell? ⟨g,off+j,none⟩=some u:=by
  rcases hu with ⟨_,e⟩ | ⟨g,cp,e,hg,hc⟩
  ·exact .inl e
  right
  cases e
  refine ⟨g,?_,hg,0,rfl,fun j u hj=>qC⟩
  have h1:=hfr g rfl
  have h2:=(H0.o.2.lt q rfl).2
  omega
 have H3:Aside (IsPlaces (aH ms) qs/\(qs= []\/∃g,g≠q/\g<w3.heap.size/\∃off,ao=some ⟨g,off,none⟩/\∀j u,(aB ai qs)[j]? =some u->w3.cell? ⟨g,off+j,none⟩=some u)):=⟨hqs,hPb⟩
 have hq0:w.heap.size<=q:=by rw [hq.o];exact jL _
 have H4:Aside (Below w.heap.size w w3/\w3.ownsRow w.heap.size 3 1 (.slice (some ⟨q,0,none⟩) 1 1) 1 (aB eL [0])):=⟨zi H0.o.1 hb3,au H0.o.2 (fun k hk=>hb3.block k (H0.o.2.lt k hk).2)⟩
 clear hPI hb3 hqs hu H0 hfr hPb hql
 go_wp2
 go_loopg [5,24] qs.length (fun kx s5 s24 wr=>∃(k:Nat) (ov:Value),ov=s5/\s24= .int .i64 (k:Int)/\k<=qs.length/\qs.length - k<=kx/\Aside (Below w.heap.size w wr/\w3.heap.size<=wr.heap.size/\(∀b,b<w3.heap.size->b≠q->wr.heap[b]? =w3.heap[b]?)/\(∀b,s5.ownBlock=some b->b=q\/w3.heap.size<=b)/\wr.ownsRow w.heap.size 3 1 s5 (aj (qs.take k)).length (aB eL (aj (qs.take k)))))
 case atStart=>exact ⟨0,_,rfl,rfl,jX _,jL _,H4.o.1,jL _,fun _ _ _=>rfl,fun b hb=>.inl (by cases hb;rfl),by rw [List.take_zero];exact H4.o.2⟩
 case round=>
  obtain ⟨k,ov,rfl,rfl,hk,hkx,A⟩:=hrel
  clear H4
  by_cases hlt:k<qs.length
  ·have hltz:decide ((k:Int)<(qs.length:Int))=true:=by simp;omega
   have ek:((k:Int)).toNat=k:=zj
   have pk:(0:Int)<=(k:Int):=zj
   have bk:(k:Int)<(qs.length:Int):=zj
   obtain ⟨⟨nd,j,s⟩,hp⟩:∃p,Aside (qs[k]? =some p):=⟨qs[k],jK hlt⟩
   have hPI:PlsIn wr ao qs:=by
    rcases H3.o.2 with e | ⟨g,hgq,hg,o,e1,e2⟩
    ·exact .inl e
    exact .inr ⟨g,o,e1,fun j u hj=>by
     have:=e2 j u hj
     simp only [World.cell?] at this |-
     rw [A.o.2.2.1 g hg hgq]
     exact this⟩
   obtain ⟨blk,off,hao,r0,r1,r2⟩:=hPI.get hp.o
   clear hPI
   subst hao
   dsimp only at r0 r1 r2
   have hnx:aj (qs.take (k+1))=aj (qs.take k)++ [nd]:=by
    unfold aj
    rw [vV,hp.o]
    simp
   have HL:=Lib.hid hnx
   obtain ⟨X,hX⟩:=ze (wr.alloc (.cells #[.int .i64 nd,.int .i64 j,.string s] 119))
   obtain ⟨b9,hb9⟩:=ze wr.heap.size
   have hbX:Below wr.heap.size wr X:=by rw [hX.o];exact zh wr _
   have c0:X.cell? ⟨b9,0,none⟩=some (.int .i64 nd):=by rw [hX.o,hb9.o];simp [go_sem]
   have hrowX:X.ownsRow w.heap.size 3 1 ov (aj (qs.take k)).length (aB eL (aj (qs.take k))):=au A.o.2.2.2.2 (fun b hb=>hbX.block b (A.o.2.2.2.2.lt b hb).2)
   obtain ⟨v',w6,hrun,HO⟩:=Iu hrowX (jM A.o.1.size hbX.size) nd (by unfold aj;rw [jY,vy,vj];omega)
   clear hrowX
   have HX:Aside (Below wr.heap.size wr X):=hbX
   clear hbX hnx
   go_upto_region 8 with fail
   rw [<-hX.o,<-hb9.o]
   clear r0 r1 r2
   go_wp2_with (at_builtin;refine Lib.wpList_append_run _ rfl _ _ _ _ rfl _ _ rfl rfl _ _ hrun ?_)
   clear hrun
   go_roundg (qs.length - (k+1))
   case measure=>omega
   case rel=>
    refine ⟨k+1,_,rfl,zI,zj,jL _,(zi A.o.1 HX.o).trans HO.o.2.1,?_,fun b hb hbq=> ?_,fun b hb=> ?_,?_⟩
    ·exact jM A.o.2.1 (jM HX.o.size HO.o.2.1.size)
    ·have hbw:b<wr.heap.size:=jW hb A.o.2.1
     rw [HO.o.2.2.1 b (jW hbw HX.o.size) (fun e=>by rcases A.o.2.2.2.1 b e with q' | q';exact hbq q';omega),HX.o.block b hbw]
     exact A.o.2.2.1 b hb hbq
    ·rcases HO.o.2.2.2 b hb with q' | q'
     ·exact A.o.2.2.2.1 b q'
     exact .inr (jM A.o.2.1 (jM HX.o.size q'))
    rw [HL.o,jP,bu]
    exact HO.o.1
  have hltz:decide ((k:Int)<(qs.length:Int))=false:=zl
  obtain rfl:k=qs.length:=zj
  have hrow:=A.o.2.2.2.2
  rw [ul] at hrow
  obtain ⟨g5,cap5,hv5⟩:=lp (n:=qs.length) (by unfold aj at hrow;rw [jY,vy] at hrow;exact hrow)
  subst hv5
  have HO:Aside (Below w.heap.size w wr/\NumsAt wr g5 0 (aj qs)):=⟨A.o.1,Ki (cap:=cap5) (by rw [show (aj qs).length=qs.length+1 by simp [aj]] at hrow |-;exact hrow)⟩
  clear A hrow
  go_wp2
  go_ret
  exact ⟨g5,cap5,qs,by simp [aj],HO.o.2,HO.o.1,⟨ms,HP.o.1,HP.o.2.1,H3.o.1⟩,zj,fun p hp=>HGd.o.fine p.1 p ((H3.o.1.mem p).1 hp)⟩
