import Derived.Test.YtfkekfibjnjcnaaGreatDoorHeldTk
import Derived.Test.YtfkekfibjnjcnaaGreatDoorMZ28
import Derived.Test.YtfkekfibjnjcnaaGreatDoorMZ33
import Derived.Test.YtfkekfibjnjcnaaGreatDoorMZ42
import Derived.Test.YtfkekfibjnjcnaaGreatDoorMeshOwn
set_option linter.unusedSimpArgs false
set_option linter.unusedVariables false
set_option maxRecDepth 100000
set_option maxHeartbeats 64000000
namespace Go.Proofs.YtfkekfibjnjcnaaGreatDoor
section
open Go.RowKit Go.Lib Go.Sort Go.Maps
open scoped Classical
def ownC (a b c:Int):Obj:=.cells #[.int .i64 a,.int .i64 b,.int .i64 c] 3 (0,0)
def wasC (u v x:Nat→Int):Obj:=.cells #[.int .i64 (u 0),.int .i64 (u 1),.int .i64 (u 2),.int .i64 (u 3),.int .i64 (v 0),.int .i64 (v 1),.int .i64 (v 2),.int .i64 (v 3),.int .i64 (x 0),.int .i64 (x 1),.int .i64 (x 2),.int .i64 (x 3)] 32 (0,0)
def noV:Nat→Int:=fun _=>0
def RiseA (S bm bo:Nat) (w:World) (k:Nat) (wr:World):Prop:=∃(gd:Nat→Option Obj) (G:List OpX) (K:Nat→Rws) (D:Nat→List OpX) (st:Nat→DSt) (N:List NoteX),MeshS gd S 3 bm K st N wr∧gd bo=some (ownC (ownN G 0:Int) (ownN G 1:Int) (ownN G 2:Int))∧Below S w wr∧MeshI 3 k G K D st N∧N.length≤30
theorem cellB {B:Nat} {w w':World} {b o:Nat} {x:Value} (hb:Below B w w') (hB:b<B) (h:w.cell? ⟨b,o,none⟩=some x):w'.cell? ⟨b,o,none⟩=some x:=by
 simp only [World.cell?] at h ⊢
 rw [hb.block b hB]
 exact h
theorem ownN_le {G:List OpX} {m:Nat} (h:G.length≤m) (r:Nat):ownN G r≤m:=Nat.le_trans (List.length_filter_le _ _) h
theorem ownC_at {w:World} {b:Nat} {c0 c1 c2:Int} (h:w.heap[b]? =some (ownC c0 c1 c2)):w.cell? ⟨b,0,none⟩=some (.int .i64 c0)∧w.cell? ⟨b,1,none⟩=some (.int .i64 c1)∧w.cell? ⟨b,2,none⟩=some (.int .i64 c2)∧∀o,w.frozen? ⟨b,o,none⟩=false:=by
 unfold ownC at h
 refine ⟨?_,?_,?_,fun o=> ?_⟩<;>simp [World.cell?,World.frozen?,h]
theorem wasC_at {w:World} {b:Nat} {u v x:Nat→Int} (h:w.heap[b]? =some (wasC u v x)):(w.cell? ⟨b,0,none⟩=some (.int .i64 (u 0))∧w.cell? ⟨b,1,none⟩=some (.int .i64 (u 1))∧w.cell? ⟨b,2,none⟩=some (.int .i64 (u 2))∧w.cell? ⟨b,3,none⟩=some (.int .i64 (u 3)))∧(w.cell? ⟨b,4,none⟩=some (.int .i64 (v 0))∧w.cell? ⟨b,5,none⟩=some (.int .i64 (v 1))∧w.cell? ⟨b,6,none⟩=some (.int .i64 (v 2))∧w.cell? ⟨b,7,none⟩=some (.int .i64 (v 3)))∧(w.cell? ⟨b,8,none⟩=some (.int .i64 (x 0))∧w.cell? ⟨b,9,none⟩=some (.int .i64 (x 1))∧w.cell? ⟨b,10,none⟩=some (.int .i64 (x 2))∧w.cell? ⟨b,11,none⟩=some (.int .i64 (x 3)))∧∀o,w.frozen? ⟨b,o,none⟩=false:=by
 unfold wasC at h
 refine ⟨⟨?_,?_,?_,?_⟩,⟨?_,?_,?_,?_⟩,⟨?_,?_,?_,?_⟩,fun o=> ?_⟩<;>simp [World.cell?,World.frozen?,h]
structure RiS (q bo bw n blk off:Nat) (u v:Nat→Int) (kk:ByteArray) (pn:Int) (w:World):Prop where
 vb:VecBlk w q u
 ow:w.cell? ⟨bo,n,none⟩=some (.int .i64 (u n))
 w0:w.cell? ⟨bw,n*4,none⟩=some (.int .i64 (v 0))
 w1:w.cell? ⟨bw,n*4+1,none⟩=some (.int .i64 (v 1))
 w2:w.cell? ⟨bw,n*4+2,none⟩=some (.int .i64 (v 2))
 w3:w.cell? ⟨bw,n*4+3,none⟩=some (.int .i64 (v 3))
 s0:w.cell? ⟨blk,off,none⟩=some (.string kk)
 s1:w.cell? ⟨blk,off+1,none⟩=some (.int .i64 pn)
theorem RiS.later {q bo bw n blk off:Nat} {u v:Nat→Int} {kk:ByteArray} {pn:Int} {w w':World} (h:RiS q bo bw n blk off u v kk pn w) (hb:Below w.heap.size w w'):RiS q bo bw n blk off u v kk pn w':=
 ⟨h.vb.later hb,cellHeld hb h.ow,cellHeld hb h.w0,cellHeld hb h.w1,cellHeld hb h.w2,cellHeld hb h.w3,cellHeld hb h.s0,cellHeld hb h.s1⟩
theorem ris_of {q bo bw n blk off:Nat} {c:Nat→Nat→Int} {v:Nat→Nat→Int} {kk:ByteArray} {pn:Int} {w:World} (hn:n<3) (hv:VecBlk w q (c n)) (ho:w.heap[bo]? =some (ownC (c 0 0) (c 1 1) (c 2 2))) (hw:w.heap[bw]? =some (wasC (v 0) (v 1) (v 2))) (h0:w.cell? ⟨blk,off,none⟩=some (.string kk)) (h1:w.cell? ⟨blk,off+1,none⟩=some (.int .i64 pn)):RiS q bo bw n blk off (c n) (v n) kk pn w:=by
 unfold ownC at ho
 unfold wasC at hw
 have h3:n=0∨n=1∨n=2:=by omega
 rcases h3 with rfl | rfl | rfl<;>exact ⟨hv,by simp [World.cell?,ho],by simp [World.cell?,hw],by simp [World.cell?,hw],by simp [World.cell?,hw],by simp [World.cell?,hw],h0,h1⟩
theorem meshRises_law {B:Nat} {ad:Nat→Addr} (w:World) (la:Option Addr) (lc:Nat) (l:List Stp) (hE0:EnvM B ad w) (hin:InRow encSt w la l) (hl:l.length<9223372036854775808) (hok:∀t∈l,StpIn t):
  Calls Tryz.prog 3 #[.slice la l.length lc] w fun e w'=>e= .returned (.bool true)∧Below w.heap.size w w':=by
 have hmet:=meshed_any w hE0
 obtain ⟨S,hS⟩:∃S,Aside (S=w.heap.size):=⟨_,rfl⟩
 have hE:EnvM S ad w:=by rw [hS.out];exact hE0.up hE0.t.env.size (Nat.le_refl _)
 have HE:Aside (EnvM S ad w∧InRow encSt w la l∧∀t∈l,StpIn t):=⟨hE,hin,hok⟩
 have hSw:S≤w.heap.size:=by rw [hS.out];exact Nat.le_refl _
 clear hE hE0 hin hok
 go_enter Tryz.func3,Tryz.ntmps3
 go_wp2_with fail
 refine hmet.mono ?_
 clear hmet
 rintro e w1 ⟨rfl,hb1⟩
 have HB1:Aside (Below w.heap.size w w1):=hb1
 have hlg:=longS_any w1 100 (by omega) la lc l (HE.out.2.1.later hb1) hl
 clear hb1
 go_wp2_with fail
 refine hlg.mono ?_
 clear hlg
 rintro e w2 ⟨z,rfl,HZ⟩
 obtain rfl:w2=w1:=HZ.out.2
 cases z with
 | true=>
  go_wp2
  go_ret
  exact ⟨rfl,HB1.out⟩
 | false=>
 have hsh:=HZ.out.1 rfl
 have hnew:=mnew_any (B:=S) w2 3 (by omega) (by omega) (by have:=HB1.out.size;rw [hS.out];exact this)
 have HSH:Aside (l.length≤100∧∀t∈l,StpShort t):=hsh
 clear hsh HZ
 go_wp2_with fail
 refine hnew.mono ?_
 clear hnew
 rintro e w3 ⟨bm,rfl,H3⟩
 obtain ⟨V,hV⟩:∃V,Aside (V=w3.alloc (.cells #[.int .i64 0,.int .i64 0,.int .i64 0] 3)):=⟨_,rfl⟩
 obtain ⟨bo,hbo⟩:∃bo,Aside (bo=w3.heap.size):=⟨_,rfl⟩
 have hSbo:S≤bo:=by
  obtain ⟨K0,st0,hm,hb,_⟩:=H3.out
  rw [hbo.out]
  exact Nat.le_trans hSw (Nat.le_trans HB1.out.size hb.size)
 have HS3:Aside (RiseA S bm bo w 0 V):=by
  obtain ⟨K0,st0,hm,hb,hK,hst,_⟩:=H3.out
  have hbS:Below S w w3:=by
   have:=HB1.out.trans (hb.mono HB1.out.size)
   rw [hS.out];exact this
  have hbV:Below w3.heap.size w3 V:=by rw [hV.out];exact (Below.refl _ w3).alloc (Nat.le_refl _) _
  refine ⟨_,[],K0,fun _=>[],st0,[],hm.ward hbV (q:=bo) (o:=ownC 0 0 0) (by rw [hbo.out];exact Nat.le_refl _) (by rw [hV.out,hbo.out];exact heap_alloc_new w3 _),if_pos rfl,hbS.trans (hbV.mono (Nat.le_trans hSw hbS.size)),⟨(MInv.start 3 _).congr (fun r hr x=>by rw [allR_nil (hK r hr)]),fun r hr=>by rw [hst r hr];exact diskI_new,fun x hx=>by simp at hx,fun r hr=>by rw [hK r hr];exact rowsK_nil⟩,by simp⟩
 clear H3
 go_upto_region 8 with fail
 rw [←hV.out,←hbo.out]
 go_wp2
 go_loopg [7] l.length (fun kx s7 wr=>∃(k:Nat),s7= .int .i64 (k:Int)∧k≤l.length∧l.length - k≤kx∧Aside (RiseA S bm bo w k wr))
 case atStart=>exact ⟨0,rfl,Nat.zero_le _,Nat.le_refl _,HS3.out⟩
 case round=>
  obtain ⟨k,rfl,hk,hkx,A⟩:=hrel
  clear HS3
  have hl100:=HSH.out.1
  by_cases hlt:k<l.length
  ·have e1:decide ((k:Int)<(l.length:Int))=true:=by simp;omega
   have wk:((k:Int)).toNat=k:=by omega
   have pk:(0:Int)≤(k:Int):=by omega
   have bk:(k:Int)<(l.length:Int):=by omega
   obtain ⟨gd,G,K,D,st,N,hm,hgo,hb,hI,hN⟩:=A.out
   obtain ⟨u0,hu0⟩:∃u0,u0=wr:=⟨_,rfl⟩
   subst hu0
   clear A
   obtain ⟨V0,hV0⟩:∃V0,Aside (V0=u0.alloc (.cells #[.int .i64 0,.int .i64 0,.int .i64 0,.int .i64 0,.int .i64 0,.int .i64 0,.int .i64 0,.int .i64 0,.int .i64 0,.int .i64 0,.int .i64 0,.int .i64 0] 32)):=⟨_,rfl⟩
   obtain ⟨bw,hbw⟩:∃bw,Aside (bw=u0.heap.size):=⟨_,rfl⟩
   have hbV0:Below u0.heap.size u0 V0:=by rw [hV0.out];exact (Below.refl _ u0).alloc (Nat.le_refl _) _
   have hne:bo≠bw:=fun q=>by
    have:=(Array.getElem?_eq_some_iff.1 (hm.held hgo)).1
    rw [q,hbw.out] at this
    omega
   have HV0:Aside (∃gd,MeshS gd S 3 bm K st N V0∧gd bo=some (ownC (ownN G 0:Int) (ownN G 1:Int) (ownN G 2:Int))∧gd bw=some (wasC noV noV noV)∧Below S w V0):=by
    refine ⟨_,hm.ward hbV0 (q:=bw) (o:=wasC noV noV noV) (by rw [hbw.out];exact Nat.le_refl _) (by rw [hV0.out,hbw.out];exact heap_alloc_new u0 _),?_,if_pos rfl,hb.trans (hbV0.mono (Nat.le_trans hSw hb.size))⟩
    exact (if_neg hne).trans hgo
   have hSu0:S≤u0.heap.size:=Nat.le_trans hSw hb.size
   have HI:Aside (MeshI 3 k G K D st N∧N.length≤30):=⟨hI,hN⟩
   have hKl:∀r,r<3→(allR (K r)).length≤1000:=fun r hr=>by have:=hI.len hr;omega
   clear hm hgo hb hI hN hbV0
   go_upto_region 12 with fail
   rw [←hV0.out,←hbw.out]
   go_wp2
   refine wp_loop_rounds 4 ?_

   obtain ⟨gR,hmR,hgoR,hgwR,hbR⟩:=HV0.out
   obtain ⟨owR,pvR,fvR,bpR,brR,dR,dvR,cR,hatR⟩:=hmR
   have hrep:=replica_any V0 0 (by omega) hatR (HE.out.1.mono hbR)
   have hvec:=rvector_any V0 (cR 0) (brR 0) ((0:Nat):Int) (K 0) (hatR.rep 0 (by omega)).1.rep (hKl 0 (by omega))
   rw [show ((0:Nat):Int)=0 from rfl] at hrep
   have HR:Aside (MeshS gR S 3 bm K st N V0∧gR bo=some (ownC (ownN G 0:Int) (ownN G 1:Int) (ownN G 2:Int))∧gR bw=some (wasC noV noV noV)∧Below S w V0):=⟨⟨_,_,_,_,_,_,_,_,hatR⟩,hgoR,hgwR,hbR⟩
   clear HV0 hatR hgoR hgwR hbR
   rw [rounds_succ]
   go_wp2_with fail
   refine hrep.mono ?_
   clear hrep
   rintro e wz ⟨rfl,rfl⟩
   go_wp2_with fail
   refine hvec.mono ?_
   clear hvec
   rintro e w7 ⟨rfl,hb7⟩
   have hw7:=(HR.out.1.later hb7).held HR.out.2.2.1
   obtain ⟨V1,hV1⟩:∃V1,Aside (V1=w7.setCells bw 0 [.int .i64 (vecR (K 0) 0),.int .i64 (vecR (K 0) 1),.int .i64 (vecR (K 0) 2),.int .i64 (vecR (K 0) 3)]):=⟨_,rfl⟩
   have hk7:Keeps (fun k=>k=bw) w7 V1:=by rw [hV1.out];exact setCells_keeps bw _ _ w7
   have ho7:V1.heap[bw]? =some (wasC (vecR (K 0)) noV noV):=by rw [hV1.out];exact setCells_heap bw _ _ w7 _ _ hw7
   have HV1:Aside (∃gd,MeshS gd S 3 bm K st N V1∧gd bo=some (ownC (ownN G 0:Int) (ownN G 1:Int) (ownN G 2:Int))∧gd bw=some (wasC (vecR (K 0)) noV noV)∧Below S w V1):=by
    have hm7:=HR.out.1.later hb7
    have hb8:Below S w w7:=HR.out.2.2.2.trans (hb7.mono (Nat.le_trans hSw HR.out.2.2.2.size))
    refine ⟨_,hm7.rewrite HR.out.2.2.1 hk7 ho7,(if_neg hne).trans HR.out.2.1,if_pos rfl,?_⟩
    exact hb8.trans (hk7.below (Nat.le_trans hSw hb8.size) (fun q e=>by rw [e,hbw.out];exact hSu0))
   clear HR hb7 hk7 ho7
   obtain ⟨c0,c1,c2,c3⟩:=(wasC_at hw7).1
   have cf:=(wasC_at hw7).2.2.2
   clear hw7
   go_upto_region 14 with fail
   rw [show ((K 0 0).length:Int)=vecR (K 0) 0 from rfl,show ((K 0 1).length:Int)=vecR (K 0) 1 from rfl,show ((K 0 2).length:Int)=vecR (K 0) 2 from rfl,show ((K 0 3).length:Int)=vecR (K 0) 3 from rfl]
   have hW:((((w7.setCell ⟨bw,0,none⟩ (.int .i64 (vecR (K 0) 0))).setCell ⟨bw,0+1,none⟩ (.int .i64 (vecR (K 0) 1))).setCell ⟨bw,0+2,none⟩ (.int .i64 (vecR (K 0) 2))).setCell ⟨bw,0+3,none⟩ (.int .i64 (vecR (K 0) 3)))=V1:=hV1.out.symm
   simp only [Nat.reduceAdd] at hW
   rw [hW]
   clear hW c0 c1 c2 c3 cf
   go_wp2_with fail

   obtain ⟨gR,hmR,hgoR,hgwR,hbR⟩:=HV1.out
   obtain ⟨owR,pvR,fvR,bpR,brR,dR,dvR,cR,hatR⟩:=hmR
   have hrep:=replica_any V1 1 (by omega) hatR (HE.out.1.mono hbR)
   have hvec:=rvector_any V1 (cR 1) (brR 1) ((1:Nat):Int) (K 1) (hatR.rep 1 (by omega)).1.rep (hKl 1 (by omega))
   rw [show ((1:Nat):Int)=1 from rfl] at hrep
   have HR:Aside (MeshS gR S 3 bm K st N V1∧gR bo=some (ownC (ownN G 0:Int) (ownN G 1:Int) (ownN G 2:Int))∧gR bw=some (wasC (vecR (K 0)) noV noV)∧Below S w V1):=⟨⟨_,_,_,_,_,_,_,_,hatR⟩,hgoR,hgwR,hbR⟩
   clear HV1 hatR hgoR hgwR hbR
   rw [rounds_succ]
   go_wp2_with fail
   refine hrep.mono ?_
   clear hrep
   rintro e wz ⟨rfl,rfl⟩
   go_wp2_with fail
   refine hvec.mono ?_
   clear hvec
   rintro e w7 ⟨rfl,hb7⟩
   have hw7:=(HR.out.1.later hb7).held HR.out.2.2.1
   obtain ⟨V2,hV2⟩:∃V2,Aside (V2=w7.setCells bw 4 [.int .i64 (vecR (K 1) 0),.int .i64 (vecR (K 1) 1),.int .i64 (vecR (K 1) 2),.int .i64 (vecR (K 1) 3)]):=⟨_,rfl⟩
   have hk7:Keeps (fun k=>k=bw) w7 V2:=by rw [hV2.out];exact setCells_keeps bw _ _ w7
   have ho7:V2.heap[bw]? =some (wasC (vecR (K 0)) (vecR (K 1)) noV):=by rw [hV2.out];exact setCells_heap bw _ _ w7 _ _ hw7
   have HV2:Aside (∃gd,MeshS gd S 3 bm K st N V2∧gd bo=some (ownC (ownN G 0:Int) (ownN G 1:Int) (ownN G 2:Int))∧gd bw=some (wasC (vecR (K 0)) (vecR (K 1)) noV)∧Below S w V2):=by
    have hm7:=HR.out.1.later hb7
    have hb8:Below S w w7:=HR.out.2.2.2.trans (hb7.mono (Nat.le_trans hSw HR.out.2.2.2.size))
    refine ⟨_,hm7.rewrite HR.out.2.2.1 hk7 ho7,(if_neg hne).trans HR.out.2.1,if_pos rfl,?_⟩
    exact hb8.trans (hk7.below (Nat.le_trans hSw hb8.size) (fun q e=>by rw [e,hbw.out];exact hSu0))
   clear HR hb7 hk7 ho7
   obtain ⟨c0,c1,c2,c3⟩:=(wasC_at hw7).2.1
   have cf:=(wasC_at hw7).2.2.2
   clear hw7
   go_upto_region 14 with fail
   rw [show ((K 1 0).length:Int)=vecR (K 1) 0 from rfl,show ((K 1 1).length:Int)=vecR (K 1) 1 from rfl,show ((K 1 2).length:Int)=vecR (K 1) 2 from rfl,show ((K 1 3).length:Int)=vecR (K 1) 3 from rfl]
   have hW:((((w7.setCell ⟨bw,4,none⟩ (.int .i64 (vecR (K 1) 0))).setCell ⟨bw,4+1,none⟩ (.int .i64 (vecR (K 1) 1))).setCell ⟨bw,4+2,none⟩ (.int .i64 (vecR (K 1) 2))).setCell ⟨bw,4+3,none⟩ (.int .i64 (vecR (K 1) 3)))=V2:=hV2.out.symm
   simp only [Nat.reduceAdd] at hW
   rw [hW]
   clear hW c0 c1 c2 c3 cf
   go_wp2_with fail

   obtain ⟨gR,hmR,hgoR,hgwR,hbR⟩:=HV2.out
   obtain ⟨owR,pvR,fvR,bpR,brR,dR,dvR,cR,hatR⟩:=hmR
   have hrep:=replica_any V2 2 (by omega) hatR (HE.out.1.mono hbR)
   have hvec:=rvector_any V2 (cR 2) (brR 2) ((2:Nat):Int) (K 2) (hatR.rep 2 (by omega)).1.rep (hKl 2 (by omega))
   rw [show ((2:Nat):Int)=2 from rfl] at hrep
   have HR:Aside (MeshS gR S 3 bm K st N V2∧gR bo=some (ownC (ownN G 0:Int) (ownN G 1:Int) (ownN G 2:Int))∧gR bw=some (wasC (vecR (K 0)) (vecR (K 1)) noV)∧Below S w V2):=⟨⟨_,_,_,_,_,_,_,_,hatR⟩,hgoR,hgwR,hbR⟩
   clear HV2 hatR hgoR hgwR hbR
   rw [rounds_succ]
   go_wp2_with fail
   refine hrep.mono ?_
   clear hrep
   rintro e wz ⟨rfl,rfl⟩
   go_wp2_with fail
   refine hvec.mono ?_
   clear hvec
   rintro e w7 ⟨rfl,hb7⟩
   have hw7:=(HR.out.1.later hb7).held HR.out.2.2.1
   obtain ⟨V3,hV3⟩:∃V3,Aside (V3=w7.setCells bw 8 [.int .i64 (vecR (K 2) 0),.int .i64 (vecR (K 2) 1),.int .i64 (vecR (K 2) 2),.int .i64 (vecR (K 2) 3)]):=⟨_,rfl⟩
   have hk7:Keeps (fun k=>k=bw) w7 V3:=by rw [hV3.out];exact setCells_keeps bw _ _ w7
   have ho7:V3.heap[bw]? =some (wasC (vecR (K 0)) (vecR (K 1)) (vecR (K 2))):=by rw [hV3.out];exact setCells_heap bw _ _ w7 _ _ hw7
   have HV3:Aside (∃gd,MeshS gd S 3 bm K st N V3∧gd bo=some (ownC (ownN G 0:Int) (ownN G 1:Int) (ownN G 2:Int))∧gd bw=some (wasC (vecR (K 0)) (vecR (K 1)) (vecR (K 2)))∧Below S w V3):=by
    have hm7:=HR.out.1.later hb7
    have hb8:Below S w w7:=HR.out.2.2.2.trans (hb7.mono (Nat.le_trans hSw HR.out.2.2.2.size))
    refine ⟨_,hm7.rewrite HR.out.2.2.1 hk7 ho7,(if_neg hne).trans HR.out.2.1,if_pos rfl,?_⟩
    exact hb8.trans (hk7.below (Nat.le_trans hSw hb8.size) (fun q e=>by rw [e,hbw.out];exact hSu0))
   clear HR hb7 hk7 ho7
   obtain ⟨c0,c1,c2,c3⟩:=(wasC_at hw7).2.2.1
   have cf:=(wasC_at hw7).2.2.2
   clear hw7
   go_upto_region 14 with fail
   rw [show ((K 2 0).length:Int)=vecR (K 2) 0 from rfl,show ((K 2 1).length:Int)=vecR (K 2) 1 from rfl,show ((K 2 2).length:Int)=vecR (K 2) 2 from rfl,show ((K 2 3).length:Int)=vecR (K 2) 3 from rfl]
   have hW:((((w7.setCell ⟨bw,8,none⟩ (.int .i64 (vecR (K 2) 0))).setCell ⟨bw,8+1,none⟩ (.int .i64 (vecR (K 2) 1))).setCell ⟨bw,8+2,none⟩ (.int .i64 (vecR (K 2) 2))).setCell ⟨bw,8+3,none⟩ (.int .i64 (vecR (K 2) 3)))=V3:=hV3.out.symm
   simp only [Nat.reduceAdd] at hW
   rw [hW]
   clear hW c0 c1 c2 c3 cf
   go_wp2_with fail

   obtain ⟨gW,hmW,hgoW,hgwW,hbW⟩:=HV3.out
   obtain ⟨⟨kk,pn,pt,pa,t',b',m',kd',nd',o',s',v'⟩,hxk⟩:∃q,Aside (l[k]? =some q):=⟨l[k],List.getElem?_eq_getElem hlt⟩
   have hmem:=List.mem_of_getElem? hxk.out
   obtain ⟨blk,off,hao,hcl⟩:=HE.out.2.1.get encSt_len hxk.out
   subst hao
   have hblk:blk<S:=by rw [hS.out];exact World.block_lt_of_cell? w _ (hcl 0 _ rfl)
   have r0:=cellB hbW hblk (hcl 0 _ rfl)
   have r1:=cellB hbW hblk (hcl 1 _ rfl)
   have r2:=cellB hbW hblk (hcl 2 _ rfl)
   have r3:=cellB hbW hblk (hcl 3 _ rfl)
   have r4:=cellB hbW hblk (hcl 4 _ rfl)
   have r5:=cellB hbW hblk (hcl 5 _ rfl)
   have r6:=cellB hbW hblk (hcl 6 _ rfl)
   have r7:=cellB hbW hblk (hcl 7 _ rfl)
   have r8:=cellB hbW hblk (hcl 8 _ rfl)
   have r9:=cellB hbW hblk (hcl 9 _ rfl)
   have r10:=cellB hbW hblk (hcl 10 _ rfl)
   have r11:=cellB hbW hblk (hcl 11 _ rfl)
   simp only [Nat.add_zero] at r0
   have HC:Aside (w.cell? ⟨blk,off+k*12,none⟩=some (.string kk)∧w.cell? ⟨blk,off+k*12+1,none⟩=some (.int .i64 pn)):=⟨hcl 0 _ rfl,hcl 1 _ rfl⟩
   have hwk:=walk_any V3 (kk,pn,pt,pa,t',b',m',kd',nd',o',s',v') (by omega) (by omega) hmW HI.out.1 HI.out.2 (HE.out.1.mono hbW) (by omega) (HE.out.2.2 _ hmem) (HSH.out.2 _ hmem)
   unfold aggSt at hwk
   dsimp only at hwk
   have HW:Aside (gW bo=some (ownC (ownN G 0:Int) (ownN G 1:Int) (ownN G 2:Int))∧gW bw=some (wasC (vecR (K 0)) (vecR (K 1)) (vecR (K 2)))∧Below S w V3∧S≤V3.heap.size):=⟨hgoW,hgwW,hbW,Nat.le_trans hSw hbW.size⟩
   clear HV3 hmW hgoW hgwW hbW hmem hcl
   rw [rounds_succ]
   go_wp2_with fail
   refine hwk.mono ?_
   clear hwk r0 r1 r2 r3 r4 r5 r6 r7 r8 r9 r10 r11
   rintro e w5 ⟨⟨t,b,m,kd,nd,o,s,v⟩,z5,G5,K5,D5,st5,N5,rfl,H5⟩
   obtain ⟨V5,hV5⟩:∃V5,Aside (V5=w5.alloc (.cells #[.int .i64 t,.int .i64 b,.int .i64 m,.int .u8 (kd:Int),.int .i64 nd,.int .i64 o,.string s,.string v] 41)):=⟨_,rfl⟩
   have hbV5:Below w5.heap.size w5 V5:=by rw [hV5.out];exact (Below.refl _ w5).alloc (Nat.le_refl _) _
   have HV5:Aside (MeshS gW S 3 bm K5 st5 N5 V5∧Below S w V5):=⟨H5.out.1.later hbV5,HW.out.2.2.1.trans (H5.out.2.1.trans (hbV5.mono (Nat.le_trans HW.out.2.2.2 H5.out.2.1.size)))⟩
   have q1:=cellB HV5.out.2 hblk HC.out.2
   have HI5:Aside (MeshI 3 (k+1) G5 K5 D5 st5 N5∧N5.length≤30∧∀r:Nat,r<3→¬(kk=⟨#[98,111,111,116]⟩∧pn=(r:Int))→∀u∈allR (K r),u∈allR (K5 r)):=⟨H5.out.2.2.1,H5.out.2.2.2.1,H5.out.2.2.2.2.1⟩
   have hG5:=H5.out.2.2.2.2.2
   have hKl5:∀r,r<3→(allR (K5 r)).length≤1000:=fun r hr=>by have:=HI5.out.1.len hr;omega
   clear H5 hbV5
   unfold encO
   dsimp only
   go_upto_if 77 with fail
   rw [←hV5.out]
   go_cut [78] (fun _ wx=>Aside (∃gd,MeshS gd S 3 bm K5 st5 N5 wx∧gd bo=some (ownC (ownN G5 0:Int) (ownN G5 1:Int) (ownN G5 2:Int))∧gd bw=some (wasC (vecR (K 0)) (vecR (K 1)) (vecR (K 2)))∧Below S w wx))
   case first=>
    cases z5 with
    | false=>
     obtain rfl:G5=G:=by
      rcases hG5 with ⟨_,q⟩ | ⟨q,_⟩
      ·exact q
      cases q
     have H6:Aside (∃gd,MeshS gd S 3 bm K5 st5 N5 V5∧gd bo=some (ownC (ownN G5 0:Int) (ownN G5 1:Int) (ownN G5 2:Int))∧gd bw=some (wasC (vecR (K 0)) (vecR (K 1)) (vecR (K 2)))∧Below S w V5):=⟨gW,HV5.out.1,HW.out.1,HW.out.2.1,HV5.out.2⟩
     clear hG5 HV5 HW q1
     go_wp2_with fail
     go_meet
     exact H6
    | true=>
     obtain ⟨hG,hby,hp0,hp3⟩:G5=G++ [(t,b,m,kd,nd,o,s,v)]∧byO (t,b,m,kd,nd,o,s,v)=pn∧0≤pn∧pn<3:=by
      rcases hG5 with ⟨q,_⟩ | ⟨_,q,q2,q3,q4⟩
      ·cases q
      exact ⟨q,q2,q3,q4⟩
     clear hG5
     have hp:pn=0∨pn=1∨pn=2:=by omega
     obtain ⟨o0,o1,o2,of⟩:=ownC_at (HV5.out.1.held HW.out.1)
     have hg0:ownN G 0≤1000:=ownN_le (by have:=HI.out.1.inv.len;omega) 0
     have hg1:ownN G 1≤1000:=ownN_le (by have:=HI.out.1.inv.len;omega) 1
     have hg2:ownN G 2≤1000:=ownN_le (by have:=HI.out.1.inv.len;omega) 2
     rcases hp with rfl | rfl | rfl

     ·obtain ⟨V6,hV6⟩:∃V6,Aside (V6=V5.setCells bo 0 [.int .i64 ((ownN G 0:Int)+1)]):=⟨_,rfl⟩
      have hk6:Keeps (fun k=>k=bo) V5 V6:=by rw [hV6.out];exact setCells_keeps bo _ _ V5
      have ho6:V6.heap[bo]? =some (ownC (ownN G5 0:Int) (ownN G5 1:Int) (ownN G5 2:Int)):=by
       rw [hG,ownN_more,ownN_more,ownN_more,hby,hV6.out]
       have:=setCells_heap bo [.int .i64 ((ownN G 0:Int)+1)] 0 V5 _ _ (HV5.out.1.held HW.out.1)
       simpa [ownC,over] using this
      have H6:Aside (∃gd,MeshS gd S 3 bm K5 st5 N5 V6∧gd bo=some (ownC (ownN G5 0:Int) (ownN G5 1:Int) (ownN G5 2:Int))∧gd bw=some (wasC (vecR (K 0)) (vecR (K 1)) (vecR (K 2)))∧Below S w V6):=
       ⟨_,HV5.out.1.rewrite HW.out.1 hk6 ho6,if_pos rfl,(if_neg (Ne.symm hne)).trans HW.out.2.1,HV5.out.2.trans (hk6.below (Nat.le_trans hSw HV5.out.2.size) (fun q e=>by rw [e];exact hSbo))⟩
      clear hk6 ho6 HV5 HW hG hby
      go_upto_region 22 with fail
      have hW:V5.setCell ⟨bo,0,none⟩ (.int .i64 ((ownN G 0:Int)+1))=V6:=hV6.out.symm
      rw [hW]
      go_meet
      exact H6

     ·obtain ⟨V6,hV6⟩:∃V6,Aside (V6=V5.setCells bo 1 [.int .i64 ((ownN G 1:Int)+1)]):=⟨_,rfl⟩
      have hk6:Keeps (fun k=>k=bo) V5 V6:=by rw [hV6.out];exact setCells_keeps bo _ _ V5
      have ho6:V6.heap[bo]? =some (ownC (ownN G5 0:Int) (ownN G5 1:Int) (ownN G5 2:Int)):=by
       rw [hG,ownN_more,ownN_more,ownN_more,hby,hV6.out]
       have:=setCells_heap bo [.int .i64 ((ownN G 1:Int)+1)] 1 V5 _ _ (HV5.out.1.held HW.out.1)
       simpa [ownC,over] using this
      have H6:Aside (∃gd,MeshS gd S 3 bm K5 st5 N5 V6∧gd bo=some (ownC (ownN G5 0:Int) (ownN G5 1:Int) (ownN G5 2:Int))∧gd bw=some (wasC (vecR (K 0)) (vecR (K 1)) (vecR (K 2)))∧Below S w V6):=
       ⟨_,HV5.out.1.rewrite HW.out.1 hk6 ho6,if_pos rfl,(if_neg (Ne.symm hne)).trans HW.out.2.1,HV5.out.2.trans (hk6.below (Nat.le_trans hSw HV5.out.2.size) (fun q e=>by rw [e];exact hSbo))⟩
      clear hk6 ho6 HV5 HW hG hby
      go_upto_region 22 with fail
      have hW:V5.setCell ⟨bo,1,none⟩ (.int .i64 ((ownN G 1:Int)+1))=V6:=hV6.out.symm
      rw [hW]
      go_meet
      exact H6

     obtain ⟨V6,hV6⟩:∃V6,Aside (V6=V5.setCells bo 2 [.int .i64 ((ownN G 2:Int)+1)]):=⟨_,rfl⟩
     have hk6:Keeps (fun k=>k=bo) V5 V6:=by rw [hV6.out];exact setCells_keeps bo _ _ V5
     have ho6:V6.heap[bo]? =some (ownC (ownN G5 0:Int) (ownN G5 1:Int) (ownN G5 2:Int)):=by
      rw [hG,ownN_more,ownN_more,ownN_more,hby,hV6.out]
      have:=setCells_heap bo [.int .i64 ((ownN G 2:Int)+1)] 2 V5 _ _ (HV5.out.1.held HW.out.1)
      simpa [ownC,over] using this
     have H6:Aside (∃gd,MeshS gd S 3 bm K5 st5 N5 V6∧gd bo=some (ownC (ownN G5 0:Int) (ownN G5 1:Int) (ownN G5 2:Int))∧gd bw=some (wasC (vecR (K 0)) (vecR (K 1)) (vecR (K 2)))∧Below S w V6):=
      ⟨_,HV5.out.1.rewrite HW.out.1 hk6 ho6,if_pos rfl,(if_neg (Ne.symm hne)).trans HW.out.2.1,HV5.out.2.trans (hk6.below (Nat.le_trans hSw HV5.out.2.size) (fun q e=>by rw [e];exact hSbo))⟩
     clear hk6 ho6 HV5 HW hG hby
     go_upto_region 22 with fail
     have hW:V5.setCell ⟨bo,2,none⟩ (.int .i64 ((ownN G 2:Int)+1))=V6:=hV6.out.symm
     rw [hW]
     go_meet
     exact H6

   clear hG5 HV5 HW q1 hxk
   obtain ⟨gd6,hm6,hgo6,hgw6,hb6⟩:=hcut.out
   have hcn:∀r,r<3→(ownN G5 r:Int)=vecR (K5 r) r:=fun r hr=>by
    have:=own_count HI5.out.1 hr (by omega)
    unfold vecR
    omega
   have HCN:Aside (∀r,r<3→(ownN G5 r:Int)=vecR (K5 r) r):=hcn
   rw [hcn 0 (by omega),hcn 1 (by omega),hcn 2 (by omega)] at hgo6
   have HL:Aside (gd6 bo=some (ownC (vecR (K5 0) 0) (vecR (K5 1) 1) (vecR (K5 2) 2))∧gd6 bw=some (wasC (vecR (K 0)) (vecR (K 1)) (vecR (K 2)))∧MeshS gd6 S 3 bm K5 st5 N5 wc∧Below S w wc):=⟨hgo6,hgw6,hm6,hb6⟩
   clear hcut hgo6 hgw6 hm6 hb6 hcn
   go_wp2
   go_loopg [14] 3 (fun kx s14 wr=>∃(n:Nat),s14= .int .i64 (n:Int)∧n≤3∧3 - n≤kx∧Aside (MeshS gd6 S 3 bm K5 st5 N5 wr∧Below S w wr))
   case atStart=>exact ⟨0,rfl,by omega,Nat.le_refl _,HL.out.2.2⟩
   case round=>
    obtain ⟨n,rfl,hn,hnx,A⟩:=hrel
    by_cases hn3:n<3
    ·have d1:decide ((n:Int)<3)=true:=by simp;omega
     have d1n:decide (n<3)=true:=by simp;omega
     obtain ⟨ow7,pv7,fv7,bp7,br7,d7,dv7,c7,hat7⟩:=A.out.1
     have hrep:=replica_any wr n hn3 hat7 (HE.out.1.mono A.out.2)
     have hvec:=rvector_any wr (c7 n) (br7 n) (n:Int) (K5 n) (hat7.rep n hn3).1.rep (hKl5 n hn3)
     obtain ⟨u1,hu1⟩:∃u1,u1=wr:=⟨_,rfl⟩
     subst hu1
     clear hat7
     go_wp2_with fail
     refine hrep.mono ?_
     clear hrep
     rintro e wz ⟨rfl,rfl⟩
     go_wp2_with fail
     refine hvec.mono ?_
     clear hvec
     rintro e w7 ⟨rfl,hb7⟩
     obtain ⟨V8,hV8⟩:∃V8,Aside (V8=w7.alloc (.cells #[.int .i64 (vecR (K5 n) 0),.int .i64 (vecR (K5 n) 1),.int .i64 (vecR (K5 n) 2),.int .i64 (vecR (K5 n) 3)] 32)):=⟨_,rfl⟩
     obtain ⟨q8,hq8⟩:∃q8,Aside (q8=w7.heap.size):=⟨_,rfl⟩
     have hbV8:Below w7.heap.size w7 V8:=by rw [hV8.out];exact (Below.refl _ w7).alloc (Nat.le_refl _) _
     have hSu1:S≤wz.heap.size:=Nat.le_trans hSw A.out.2.size
     have H8:Aside (MeshS gd6 S 3 bm K5 st5 N5 V8∧Below S w V8):=⟨(A.out.1.later hb7).later hbV8,(A.out.2.trans (hb7.mono hSu1)).trans (hbV8.mono (Nat.le_trans hSu1 hb7.size))⟩
     have SD:RiS q8 bo bw n blk (off+k*12) (vecR (K5 n)) (vecR (K n)) kk pn V8.drew:=ris_of (c:=fun i=>vecR (K5 i)) (v:=fun i=>vecR (K i)) hn3 (by rw [hV8.out,hq8.out];exact heap_alloc_new w7 _) (H8.out.1.held HL.out.1) (H8.out.1.held HL.out.2.1) (cellB H8.out.2.drew hblk HC.out.1) (cellB H8.out.2.drew hblk HC.out.2)
     obtain ⟨z,hz⟩:∃z,Aside (z=covB (vecR (K5 n) 0) (vecR (K5 n) 1) (vecR (K5 n) 2) (vecR (K5 n) 3) (vecR (K n) 0) (vecR (K n) 1) (vecR (K n) 2) (vecR (K n) 3)):=⟨_,rfl⟩
     have hcv:=vcovers_any (vecR (K5 n) 0) (vecR (K5 n) 1) (vecR (K5 n) 2) (vecR (K5 n) 3) (vecR (K n) 0) (vecR (K n) 1) (vecR (K n) 2) (vecR (K n) 3) V8.drew
     rw [←hz.out] at hcv
     have wn:((n:Int)).toNat=n:=by omega
     have p0:(0:Int)≤(n:Int):=by omega
     have b3:(n:Int)<3:=by omega
     have b4:(n:Int)<4:=by omega
     have hnat:n<4:=by omega
     clear hb7 hbV8 A
     go_upto_region 29 with fail
     rw [show ((K5 n 0).length:Int)=vecR (K5 n) 0 from rfl,show ((K5 n 1).length:Int)=vecR (K5 n) 1 from rfl,show ((K5 n 2).length:Int)=vecR (K5 n) 2 from rfl,show ((K5 n 3).length:Int)=vecR (K5 n) 3 from rfl,←hV8.out,←hq8.out]
     refine wp_region_H (S:=(fun w'=>RiS q8 bo bw n blk (off+k*12) (vecR (K5 n)) (vecR (K n)) kk pn w')) (by kernel_rfl) SD (fun hHeld=> ?_)
     refine tk 0 hHeld ?_
     refine tk 1 hHeld ?_
     refine tk 2 hHeld ?_ (hy:=Or.inl ⟨by rfl,by intro w' hSw;have q0:=hSw.vb.at (i:=n) (by omega);clear hSw;go_simp;try with_reducible rfl⟩)
     refine tk 3 hHeld ?_
     refine tk 4 hHeld ?_
     refine tk 5 hHeld ?_
     refine tk 6 hHeld ?_ (hy:=Or.inl ⟨by rfl,by intro w' hSw;have q0:=hSw.ow;clear hSw;go_simp;try with_reducible rfl⟩)
     refine tk 7 hHeld ?_
     refine tk 8 hHeld ?_
     refine tk 9 hHeld ?_ (hy:=Or.inl ⟨by rfl,by intro w' hSw;have q0:=hSw.vb.at (i:=0) (by omega);have q1:=hSw.vb.at (i:=1) (by omega);have q2:=hSw.vb.at (i:=2) (by omega);have q3:=hSw.vb.at (i:=3) (by omega);clear hSw;go_simp;try with_reducible rfl⟩)
     refine tk 10 hHeld ?_
     refine tk 11 hHeld ?_
     refine tk 12 hHeld ?_
     refine tk 13 hHeld ?_ (hy:=Or.inl ⟨by rfl,by intro w' hSw;have q0:=hSw.w0;have q1:=hSw.w1;have q2:=hSw.w2;have q3:=hSw.w3;clear hSw;go_simp;try with_reducible rfl⟩)
     refine wpAnyH_one (i:=14) (by kernel_rfl) rfl (fun kQ hK=> ?_)
     go_simp
     refine hcv.mono ?_
     clear hcv
     rintro e wb ⟨rfl,hbb⟩
     have Sb:=SD.later hbb
     have Hb:Aside (MeshS gd6 S 3 bm K5 st5 N5 wb∧Below S w wb):=⟨(H8.out.1.later (Below.refl _ V8).drew).later hbb,H8.out.2.drew.trans (hbb.mono (Nat.le_trans hSw H8.out.2.drew.size))⟩
     refine hK _ _ Sb ?_
     clear hK kQ hbb SD H8 hHeld
     have hHeld:=Sb
     refine qn ?_
     cases z with
     | true=>
      refine tk 15 hHeld ?_
      refine tk 16 hHeld ?_
      refine tk 17 hHeld ?_ (hy:=Or.inr ⟨by rfl,rfl⟩)
      refine tk 18 hHeld ?_ (hy:=Or.inr ⟨by rfl,rfl⟩)
      refine tk 19 hHeld ?_ (hy:=Or.inr ⟨by rfl,rfl⟩)
      refine tk 20 hHeld ?_ (hy:=Or.inr ⟨by rfl,rfl⟩)
      refine tk 21 hHeld ?_ (hy:=Or.inr ⟨by rfl,rfl⟩)
      refine tk 22 hHeld ?_ (hy:=Or.inr ⟨by rfl,rfl⟩)
      refine tk 23 hHeld ?_ (hy:=Or.inr ⟨by rfl,rfl⟩)
      refine tk 24 hHeld ?_ (hy:=Or.inr ⟨by rfl,rfl⟩)
      refine tk 25 hHeld ?_ (hy:=Or.inr ⟨by rfl,rfl⟩)
      refine tk 26 hHeld ?_ (hy:=Or.inr ⟨by rfl,rfl⟩)
      refine tk 27 hHeld ?_ (hy:=Or.inr ⟨by rfl,rfl⟩)
      refine tk 28 hHeld ?_ (hy:=Or.inr ⟨by rfl,rfl⟩)
      refine tk 29 hHeld ?_ (hy:=Or.inr ⟨by rfl,rfl⟩)
      refine tk 30 hHeld ?_ (hy:=Or.inr ⟨by rfl,rfl⟩)
      refine tk 31 hHeld ?_ (hy:=Or.inr ⟨by rfl,rfl⟩)
      refine tk 32 hHeld ?_ (hy:=Or.inr ⟨by rfl,rfl⟩)
      refine tk 33 hHeld ?_
      refine wpAnyH_one (i:=34) (by kernel_rfl) rfl (fun kQ hK=> ?_)
      go_simp
      refine hK _ _ Sb ?_
      clear hK kQ
      refine wpAnyH_done (by kernel_rfl) ?_ _
      refine qn ?_
      go_wp2
      go_roundg (3 - (n+1))
      case measure=>omega
      case rel=>exact ⟨n+1,by go_num,by omega,Nat.le_refl _,Hb.out⟩
     | false=>
      have hbt:kk=⟨#[98,111,111,116]⟩∧pn=(n:Int):=by
       by_cases q:kk=⟨#[98,111,111,116]⟩∧pn=(n:Int)
       ·exact q
       have rs:=fun (i:Nat) (hi:i<4)=>row_sub (HI.out.1.rows n hn3) (HI5.out.1.rows n hn3) (HI5.out.2.2 n hn3 q) hi
       have r0:=rs 0 (by omega)
       have r1:=rs 1 (by omega)
       have r2:=rs 2 (by omega)
       have r3:=rs 3 (by omega)
       have:=hz.out
       unfold vecR at this
       rw [cov_true (by omega) (by omega) (by omega) (by omega)] at this
       cases this
      obtain ⟨rfl,rfl⟩:=hbt
      refine tk 15 hHeld ?_
      refine tk 16 hHeld ?_
      refine tk 17 hHeld ?_
      refine tk 18 hHeld ?_
      refine tk 19 hHeld ?_
      refine tk 20 hHeld ?_
      refine tk 21 hHeld ?_ (hy:=Or.inl ⟨by rfl,by intro w' hSw;have q0:=hSw.s0;clear hSw;go_simp;try with_reducible rfl⟩)
      refine tk 22 hHeld ?_
      refine tk 23 hHeld ?_
      refine tk 24 hHeld ?_
      refine tk 25 hHeld ?_
      refine tk 26 hHeld ?_
      refine tk 27 hHeld ?_
      refine tk 28 hHeld ?_ (hy:=Or.inl ⟨by rfl,by intro w' hSw;have q0:=hSw.s1;clear hSw;go_simp;try with_reducible rfl⟩)
      refine tk 29 hHeld ?_
      refine tk 30 hHeld ?_
      refine tk 31 hHeld ?_
      refine tk 32 hHeld ?_
      refine tk 33 hHeld ?_
      refine wpAnyH_one (i:=34) (by kernel_rfl) rfl (fun kQ hK=> ?_)
      go_simp
      refine hK _ _ Sb ?_
      clear hK kQ
      refine wpAnyH_done (by kernel_rfl) ?_ _
      refine qn ?_
      go_wp2
      go_roundg (3 - (n+1))
      case measure=>omega
      case rel=>exact ⟨n+1,by go_num,by omega,Nat.le_refl _,Hb.out⟩
    have d1:decide ((n:Int)<3)=false:=by simp;omega
    have d1n:decide (n<3)=false:=by simp;omega
    have H9:Aside (RiseA S bm bo w (k+1) wr):=⟨gd6,G5,K5,D5,st5,N5,A.out.1,(by rw [HCN.out 0 (by omega),HCN.out 1 (by omega),HCN.out 2 (by omega)];exact HL.out.1),A.out.2,HI5.out.1,HI5.out.2.1⟩
    clear A HL
    go_wp2
    go_roundg (l.length - (k+1))
    case measure=>omega
    case rel=>exact ⟨k+1,by go_num,by omega,Nat.le_refl _,H9⟩
  have e1:decide ((k:Int)<(l.length:Int))=false:=by simp;omega
  have HB:Aside (Below S w wr):=by
   obtain ⟨_,_,_,_,_,_,_,_,hb,_⟩:=A.out
   exact hb
  clear A
  go_wp2
  go_ret
  refine ⟨rfl,?_⟩
  have:=HB.out
  rwa [hS.out] at this
end
end Go.Proofs.YtfkekfibjnjcnaaGreatDoor
