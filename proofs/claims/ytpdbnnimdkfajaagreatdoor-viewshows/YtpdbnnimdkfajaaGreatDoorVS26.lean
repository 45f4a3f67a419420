import Derived.Test.YtpdbnnimdkfajaaGreatDoorVS21
set_option linter.unusedSimpArgs false
set_option linter.unusedVariables false
set_option maxRecDepth 100000
set_option maxHeartbeats 64000000
namespace Go.Proofs.YtpdbnnimdkfajaaGreatDoor
variable {w w':World}
section
open Go.RowKit Go.Maps
open scoped Classical
theorem keeps_undrew {Sx:Nat->Prop} (h:Keeps Sx w.drew w'):Keeps Sx w w':=⟨h.os,h.tape,h.output,h.size,h.block⟩
theorem below_undrew (h:Below w.drew.heap.size w.drew w'):Below w.heap.size w w':=⟨h.os,h.tape,h.output,h.size,h.block⟩
theorem actOk_undrew {base:Nat} {W:World} {p:Nat} {v:Value} {M:List Ltr} (hb:Below w.heap.size w W) (h:ActOk base W p v M w'):ActOk base w p v M w':=by
 obtain ⟨v',q1,q2,q3⟩:=h
 exact ⟨v',q1,((keeps_of_below hb).mono (fun k hk e=>absurd hk zi)).then q2 (fun _ _ e=>e),q3.imp id (fun q g hg=>jw hb.size (q g hg))⟩
theorem ins_value {x:OpX} (h:errO x=0) (hk:kdO x=105):∃ch:UInt8,x.2.2.2.2.2.2.2=⟨#[ch]⟩:=by
 have h0:=opE_zero h
 unfold errO opE at h
 rw [if_pos ⟨h0.1,h0.2.1,h0.2.2.1,h0.2.2.2.1,h0.2.2.2.2.1,h0.2.2.2.2.2.1⟩] at h
 unfold kindE at h
 have hk':x.2.2.2.1=105:=hk
 rw [hk',if_neg zo,if_pos rfl] at h
 unfold insE at h
 split at h
 ·cases h
 split at h
 ·cases h
 split at h
 ·cases h
 rename_i hv
 have hl:x.2.2.2.2.2.2.2.data.toList.length=1:=by
  rcases Nat.decEq x.2.2.2.2.2.2.2.data.toList.length 1 with q | q
  ·exact absurd (.inl q) hv
  exact q
 match hd:x.2.2.2.2.2.2.2 with
 | ⟨⟨l⟩⟩=>
  rw [hd] at hl
  match l,hl with
  | [ch],_=>exact ⟨ch,rfl⟩
theorem apply_any {B:Nat} {ad:Nat->Addr} (w:World) (c:Nat->Nat) (br:Nat) (T by_:Int) (kv:Nat->Value) (bt bx bc:Nat) (R:Rws) (A:List OpX) (x:OpX) (h:RepPart w c br T by_ kv bt bx bc R A) (hs:StepOk A x) (hE:EnvE B ad w) (hB:∀k,c k≠0->B<=k) (hcw:∀k,w.heap.size<=k->c k=0) (hlen:A.length<=140):
  Calls Tryz.prog 54 #[.pointer (some ⟨br,0,none⟩),encO x] w fun e w'=>(∃u,e= .returned u)/\AppOk B w c br by_ kv bt bx bc R (x::A) (if T<x.1 then x.1 else T) w':=by
 have hsx:=opE_zero hs.ok
 have hby:=err_by hs.ok
 have hrf:=err_refs hs.ok
 have hir:=id_range hs.ok
 obtain ⟨t,b,n,kd,nd,o,s,v⟩:=x
 obtain ⟨P,hP⟩:=za w.heap.size
 obtain ⟨U,hU⟩:=za (w.alloc (.cells #[.int .i64 t,.int .i64 b,.int .i64 n,.int .u8 (kd:Int),.int .i64 nd,.int .i64 o,.string s,.string v] 38))
 have hbU:Below w.heap.size w U:=zJ
 have O1:OpBlk U P (t,b,n,kd,nd,o,s,v):=by rw [hU,hP];exact OpBlk.new w (t,b,n,kd,nd,o,s,v)
 have hUp:=h.later hbU
 have hbr:br<P:=by rw [hP];exact h.cell.lt
 have hck:=chear_any br T by_ t b U.drew ⟨hUp.cell.c0,hUp.cell.c1,hUp.cell.fz 0⟩ hby.1 hby.2.1 hby.2.2.1 hby.2.2.2
 obtain ⟨T',hT'⟩:=za ((if T<t then t else T))
 have HT:Aside (T'=(if T<t then t else T)):=hT'
 have H0:Aside (RepPart U c br T by_ kv bt bx bc R A/\OpBlk U P (t,b,n,kd,nd,o,s,v)/\Below w.heap.size w U/\P=w.heap.size/\EnvE B ad w/\(∀k,c k≠0->B<=k)/\StepOk A (t,b,n,kd,nd,o,s,v)/\br<P/\c P=0):=⟨hUp,O1,hbU,hP,hE,hB,hs,hbr,hcw P zi⟩
 have HX:Aside (s.size<=1000000/\v.size<=1000000/\(-2^63<=nd/\nd<2^63)/\(kd=109\/kd=105\/kd=100\/kd=115)):=by
  have a1:s.data.toList.length<=12:=hsx.2.2.2.2.2.2.2.2.2.2.2.2.1
  have a2:v.data.toList.length<=12:=hsx.2.2.2.2.2.2.2.2.2.2.2.2.2
  rw [listLen] at a1 a2
  have a3:0<=nd:=hrf.2.2.1
  have a4:nd<=idO (t,b,n,kd,nd,o,s,v):=hrf.1.elim (fun q=>q.2) (fun q=>uy q)
  exact ⟨zi,zi,⟨zi,zi⟩,hsx.2.2.2.2.2.2.1⟩
 have e1:(if T<(t,b,n,kd,nd,o,s,v).1 then (t,b,n,kd,nd,o,s,v).1 else T)=T':=hT'.symm
 rw [e1]
 clear e1 hT' hUp O1 hbU hs hE hB h hsx hby hrf hir hbr hcw
 unfold encO
 dsimp only
 go_enter Tryz.func54,Tryz.ntmps54
 go_wp2_with fail
 rw [<-hU,<-hP]
 clear hU hP
 refine wp_region_H (S:=(fun w'=>OpBlk w' P (t,b,n,kd,nd,o,s,v))) zj H0.o.2.1 (fun hHeld=> ?_)
 refine tk 0 hHeld ?_ (hy:=Or.inl ⟨zu,zA⟩)
 refine tk 1 hHeld ?_ (hy:=Or.inl ⟨zu,zA⟩)
 refine tk 2 hHeld ?_ (hy:=Or.inl ⟨zu,zA⟩)
 refine tk 3 hHeld ?_ (hy:=Or.inl ⟨zu,zA⟩)
 refine tk 4 hHeld ?_ (hy:=Or.inl ⟨zu,zA⟩)
 refine wpAnyH_one (i:=5) zj rfl (fun K hK=> ?_)
 go_simp
 refine hck.mono ?_
 clear hck
 rintro e w1 ⟨⟨u,rfl⟩,W,hbW,hh⟩
 have H1:Aside (RepPart w1 c br T' by_ kv bt bx bc R A/\OpBlk w1 P (t,b,n,kd,nd,o,s,v)/\Acts w c w1 c/\P<w1.heap.size/\w.heap.size<=w1.heap.size):=by
  obtain ⟨a1,a2⟩:=(H0.o.1.later (jo _ _).drew).heard hbW hh
  have hPU:P<U.heap.size:=H0.o.2.1.lt
  have a3:OpBlk w1 P (t,b,n,kd,nd,o,s,v):=(a2.block P hPU (fun e=>by have:=H0.o.2.2.2.2.2.2.2.1;omega)).trans H0.o.2.1
  refine ⟨by rw [HT.o];exact a1,a3,⟨((keeps_of_below H0.o.2.2.1).mono (fun k hk e=>absurd hk zi)).then (keeps_undrew a2) (fun k hk e=>by have e':k=br:=e;rw [e',H0.o.1.hue];decide),fun _ _=>rfl⟩,a3.lt,jw H0.o.2.2.1.size a2.size⟩
 refine hK _ _ H1.o.2.1 ?_
 clear hK K hh hbW
 refine qn ?_
 refine wpAnyH_done zj ?_ _
 have hP1:=H1.o.2.2.2.1
 have EV:Aside (EnvE B ad w1):=H0.o.2.2.2.2.1.mono (H1.o.2.2.1.keeps.below H0.o.2.2.2.2.1.size (fun k e=>H0.o.2.2.2.2.2.1 k e))
 obtain ⟨y0,y1,y2,y3,y4,y5,y6,y7,f8⟩:=H1.o.2.1.cells
 dsimp only at y0 y1 y2 y3 y4 y5 y6 y7
 have hkinds:=HX.o.2.2.2
 rcases hkinds with rfl | rfl | rfl | rfl
 ·have hstep:=H0.o.2.2.2.2.2.2.1
  have hcall:=opid_is (t,b,n,109,nd,o,s,v) w1.drew hstep.ok
  unfold encO at hcall
  dsimp only at hcall
  obtain ⟨dq,hdq⟩:=za ((nd==idO (t,b,n,109,nd,o,s,v)))
  have HDQ:Aside (dq=(nd==idO (t,b,n,109,nd,o,s,v))):=hdq
  obtain ⟨idx,hidx⟩:=za (idO (t,b,n,109,nd,o,s,v))
  rw [<-hidx] at hcall hdq
  have hdq':(nd==idx)=dq:=hdq.symm
  clear hdq hidx
  go_wp2_with fail
  refine wp_region_H (S:=(fun w'=>OpBlk w' P (t,b,n,109,nd,o,s,v)/\RepCell w' br T' by_ kv bt bx bc/\w'.heap[bx]? =w1.heap[bx]?)) zj ⟨H1.o.2.1,H1.o.1.cell,rfl⟩ (fun hHeld=> ?_)
  refine tk 0 hHeld ?_
  refine tk 1 hHeld ?_ (hy:=Or.inl ⟨zu,zO⟩)
  refine tk 2 hHeld ?_ (hy:=Or.inl ⟨zu,zt⟩)
  refine wpAnyH_one (i:=3) zj rfl (fun K hK=> ?_)
  go_simp
  refine hcall.mono ?_
  clear hcall
  rintro e w2 ⟨rfl,hb2⟩
  have hbX:Below w1.heap.size w1 w2:=below_undrew hb2
  have hbl:bx<w1.heap.size:=by
   obtain ⟨nx,tx,_,q2,_⟩:=H1.o.1.text
   exact q2.lt
  have hS2:OpBlk w2 P (t,b,n,109,nd,o,s,v)/\RepCell w2 br T' by_ kv bt bx bc/\w2.heap[bx]? =w1.heap[bx]? :=⟨H1.o.2.1.later hbX,H1.o.1.cell.same (hbX.block _ H1.o.1.cell.lt),hbX.block _ hbl⟩
  refine hK _ _ hS2 ?_
  clear hK K
  refine qn ?_
  refine wpAnyH_one (i:=4) zj rfl (fun K hK=> ?_)
  go_simp
  refine hK _ _ hS2 ?_
  clear hK K
  refine qn ?_
  refine wpAnyH_done zj ?_ _
  have H2:Aside (RepPart w2 c br T' by_ kv bt bx bc R A/\OpBlk w2 P (t,b,n,109,nd,o,s,v)/\Acts w c w2 c/\EnvE B ad w2):=⟨H1.o.1.later hbX,hS2.1,H1.o.2.2.1.trans (Acts.of_below c hbX),EV.o.later hbX⟩
  have hP2:=H2.o.2.1.lt
  clear y0 y1 y2 y3 y4 y5 y6 y7 f8 hHeld hS2 hbl hb2
  cases dq with
  | false=>
   have hnid:nd≠idO (t,b,n,109,nd,o,s,v):=fun e=>by
    have:=HDQ.o
    rw [<-e] at this
    simp at this
   have GX:Aside (RepCell w2 br T' by_ kv bt bx bc/\OpBlk w2 P (t,b,n,109,nd,o,s,v)/\c br=1/\RowsAt w2 (c) kv R/\TextC w2 (c) bx ((t,b,n,109,nd,o,s,v)::A)/\CellC w2 (c) bc A/\Acts w c w2 (c)/\(∀k,c k≠0->B<=k)/\c P=0):=⟨H2.o.1.cell,H2.o.2.1,H2.o.1.hue,H2.o.1.rows,H2.o.1.text.skip ⟨by show (109:Nat)≠105;decide,by show (109:Nat)≠100;decide⟩ (fun q=>hnid q.2),H2.o.1.marks,H2.o.2.2.1,H0.o.2.2.2.2.2.1,H0.o.2.2.2.2.2.2.2.2⟩
   have EX:Aside (EnvE B ad w2):=H2.o.2.2.2
   obtain ⟨bm,vt,ms,tr1,tr2,tr3,tr4,tr5⟩:=H2.o.1.tree
   have hcall:=apply_core undo_ok w2.drew 0 bt bm vt ms t b n nd o s v (EX.o.later (jo _ w2).drew).op4 (tr1.later (jo _ w2).drew) (js _) yL HX.o.1 HX.o.2.1 hstep.ok (movs_new hstep tr2)
   go_wp2_with fail
   refine wp_region_H (S:=(fun w'=>OpBlk w' P (t,b,n,109,nd,o,s,v)/\RepCell w' br T' by_ kv bt bx bc)) zj ⟨GX.o.2.1,GX.o.1⟩ (fun hHeld=> ?_)
   refine tk 0 hHeld ?_
   refine tk 1 hHeld ?_
   refine tk 2 hHeld ?_
   refine tk 3 hHeld ?_ (hy:=Or.inl ⟨zu,qh⟩)
   refine tk 4 hHeld ?_ (hy:=Or.inl ⟨zu,zt⟩)
   refine wpAnyH_one (i:=5) zj rfl (fun K hK=> ?_)
   go_simp
   refine hcall.mono ?_
   clear hcall
   rintro e w4 ⟨rfl,vt',ms',q1,q2,q3,q4⟩
   have HS:Aside (AppOk B w c br by_ kv bt bx bc R ((t,b,n,109,nd,o,s,v)::A) T' w4):=apply_move_go (c1:=c) GX.o.1 GX.o.2.2.1 GX.o.2.2.2.1 GX.o.2.2.2.2.1 GX.o.2.2.2.2.2.1 rfl tr1 tr2 ⟨tr3,tr4,tr5⟩ q1 q2 (keeps_undrew q3) q4 GX.o.2.2.2.2.2.2.1 GX.o.2.2.2.2.2.2.2.1 H0.o.2.2.2.2.1.size
   have hne:∀k,c k=0\/c k=1->¬(k=bt\/k=bm\/some k=vt.ownBlock):=fun k e e'=>by
    have:c k=2:=by
     rcases e' with q | q | q
     ·rw [q];exact tr3
     ·rw [q];exact tr4
     exact tr5 k q.symm
    omega
   refine hK _ _ ⟨(q3.block P GX.o.2.1.lt (hne P (.inl GX.o.2.2.2.2.2.2.2.2))).trans GX.o.2.1,GX.o.1.same (q3.block br GX.o.1.lt (hne br (.inr GX.o.2.2.1)))⟩ ?_
   clear hK K
   refine qn ?_
   refine wpAnyH_done zj ?_ _
   go_wp2
   go_end0
   exact ⟨⟨_,rfl⟩,HS.o⟩
  | true=>
   have hnid:nd=idO (t,b,n,109,nd,o,s,v):=by
    have:=HDQ.o
    simpa using this.symm
   obtain ⟨nx,tx,t1,t2,t3,t4,t5⟩:=H2.o.1.text
   have hwf:Wf nd:=wf_of HX.o.2.2.1.1 HX.o.2.2.1.2
   have hbA:Below w2.heap.size w2 (w2.alloc (.cells #[.slice none 0 0] 248)).drew:=(zg w2 _).drew
   obtain ⟨w3,hrun,hM3,hT3⟩:=(t2.same (hbA.block bx t2.lt)).store zD hwf w2.heap.size
   have K3:=keeps_of_grown hT3.grown
   have hk23:Keeps (fun k=>k=bx) w2 w3:=((keeps_of_below hbA).mono (fun k hk e=>absurd hk zi)).then K3 (fun k hk e=>zZ)
   have hline:w3.heap[w2.heap.size]? =some (.cells #[.slice none 0 0] 248 (0,0)):=by
    rw [K3.block _ (by show w2.heap.size<(w2.alloc _).heap.size;rw [jI];exact Nat.lt_succ_self _) (fun e=>by have:=t2.lt;simp at e;omega)]
    exact heap_alloc_new w2 _
   have hnew:=apply_new_go (w2:=w3) (p:=w2.heap.size) (nx:=nx) (tx:=tx) H2.o.1 hstep rfl hnid t1 hM3 t3 t4 t5 t2.lt hline ze hk23
   obtain ⟨c2,hc2⟩:=za (paint2 c w2 w3 (hueOf (nodeO (t,b,n,109,nd,o,s,v))))
   rw [<-hc2] at hnew
   have hP3:OpBlk w3 P (t,b,n,109,nd,o,s,v):=(hk23.block P hP2 (fun e=>by have:=H0.o.2.2.2.2.2.2.2.2;rw [e,t3] at this;omega)).trans H2.o.2.1
   have GX:Aside (RepCell w3 br T' by_ kv bt bx bc/\OpBlk w3 P (t,b,n,109,nd,o,s,v)/\c2 br=1/\RowsAt w3 (c2) kv R/\TextC w3 (c2) bx ((t,b,n,109,nd,o,s,v)::A)/\CellC w3 (c2) bc A/\Acts w c w3 (c2)/\(∀k,c2 k≠0->B<=k)/\c2 P=0):=by
    refine ⟨hnew.1,hP3,hnew.2.1,hnew.2.2.1,hnew.2.2.2.2.1,hnew.2.2.2.2.2,H2.o.2.2.1.trans ⟨hk23.mono (fun k hk e=>by rw [e,t3];decide),fun k hk=>by rw [hc2];exact paint2_old hk⟩,fun k e=> ?_,by rw [hc2,paint2_old hP2];exact H0.o.2.2.2.2.2.2.2.2⟩
    by_cases hkl:k<w2.heap.size
    ·rw [hc2,paint2_old hkl] at e;exact H0.o.2.2.2.2.2.1 k e
    have:=H2.o.2.2.2.size;omega
   have EX:Aside (EnvE B ad w3):=H2.o.2.2.2.mono (hk23.below H2.o.2.2.2.size (fun k e=>H0.o.2.2.2.2.2.1 k (by rw [e,t3];decide)))
   obtain ⟨bm,vt,ms,tr1,tr2,tr3,tr4,tr5⟩:=hnew.2.2.2.1
   unfold encT_ at hrun
   simp only [ut] at hrun
   have hSA:OpBlk (w2.alloc (.cells #[.slice none 0 0] 248)).drew P (t,b,n,109,nd,o,s,v)/\RepCell (w2.alloc (.cells #[.slice none 0 0] 248)).drew br T' by_ kv bt bx bc:=⟨H2.o.2.1.later hbA,H2.o.1.cell.same (hbA.block _ H2.o.1.cell.lt)⟩
   clear hnew hM3 hT3 K3 hline hP3 hc2 hk23 t1 t2 t3 t4 t5 hbA hnid
   go_wp2_with fail
   refine wp_region_Z (S:=(fun w'=>OpBlk w' P (t,b,n,109,nd,o,s,v)/\RepCell w' br T' by_ kv bt bx bc)) (z:=7) zj ⟨H2.o.2.1,H2.o.1.cell⟩ (fun hHeld=> ?_)
   refine wpAnyZ_free (i:=0) (v:= ?val0) zo rfl zj zj zj (fun _ _ _ h=>h) (Or.inl ⟨zu,?hyl0⟩) hHeld ?restl0
   case hyl0=>(intro w' _;go_simp;try with_reducible rfl)
   refine qn ?_
   refine wpAnyZ_free (i:=1) (v:= ?val1) zo rfl zj zj zj (fun _ _ _ h=>h) (Or.inl ⟨zu,?hyl1⟩) hHeld ?restl1
   case hyl1=>(intro w' _;go_simp;try with_reducible rfl)
   refine qn ?_
   refine wpAnyZ_free (i:=2) (v:= ?val2) zo rfl zj zj zj (fun _ _ _ h=>h) (Or.inl ⟨zu,?hyl2⟩) hHeld ?restl2
   case hyl2=>(intro w' _;go_simp;try with_reducible rfl)
   refine qn ?_
   refine wpAnyZ_take (i:=3) (v:= ?val3) zo zj rfl zj zj zj zj (fun _ _ _ h=>h) (Or.inl ⟨zu,?hyl3⟩) hHeld ?restl3
   case hyl3=>(intro w' hSw;have r7:=hSw.2.c7;clear hSw;go_simp;try with_reducible rfl)
   refine qn ?_
   refine wpAnyZ_free (i:=4) (v:= ?val4) zo rfl zj zj zj (fun _ _ _ h=>h) (Or.inl ⟨zu,?hyl4⟩) hHeld ?restl4
   case hyl4=>(intro w' _;go_simp;try with_reducible rfl)
   refine qn ?_
   refine wpAnyZ_take (i:=5) (v:= ?val5) zo zj rfl zj zj zj zj (fun _ _ _ h=>h) (Or.inl ⟨zu,?hyl5⟩) hHeld ?restl5
   case hyl5=>(intro w' hSw;have j4:=(OpBlk.cells hSw.1).2.2.2.2.1;dsimp only at j4;clear hSw;go_simp;try with_reducible rfl)
   refine qn ?_
   refine wpAnyZ_one (i:=6) zj rfl (fun K hK=> ?_)
   go_simp
   refine (lineNew _).mono ?_
   rintro e w' ⟨rfl,rfl⟩
   refine hK _ _ (.inl hSA) ?_
   clear hK K
   refine qn ?_
   refine wpAnyZ_one (i:=7) zj rfl (fun K hK=> ?_)
   go_simp
   refine hK _ _ (.inr ⟨rfl,zo⟩) ?_
   clear hK K hrun
   refine wpAnyZ_done zj ?_ _
   have hcall:=apply_core undo_ok w3.drew 0 bt bm vt ms t b n nd o s v (EX.o.later (jo _ w3).drew).op4 (tr1.later (jo _ w3).drew) (js _) yL HX.o.1 HX.o.2.1 hstep.ok (movs_new hstep tr2)
   go_wp2_with fail
   refine wp_region_H (S:=(fun w'=>OpBlk w' P (t,b,n,109,nd,o,s,v)/\RepCell w' br T' by_ kv bt bx bc)) zj ⟨GX.o.2.1,GX.o.1⟩ (fun hHeld=> ?_)
   refine tk 0 hHeld ?_
   refine tk 1 hHeld ?_
   refine tk 2 hHeld ?_
   refine tk 3 hHeld ?_ (hy:=Or.inl ⟨zu,qh⟩)
   refine tk 4 hHeld ?_ (hy:=Or.inl ⟨zu,zt⟩)
   refine wpAnyH_one (i:=5) zj rfl (fun K hK=> ?_)
   go_simp
   refine hcall.mono ?_
   clear hcall
   rintro e w4 ⟨rfl,vt',ms',q1,q2,q3,q4⟩
   have HS:Aside (AppOk B w c br by_ kv bt bx bc R ((t,b,n,109,nd,o,s,v)::A) T' w4):=apply_move_go (c1:=c2) GX.o.1 GX.o.2.2.1 GX.o.2.2.2.1 GX.o.2.2.2.2.1 GX.o.2.2.2.2.2.1 rfl tr1 tr2 ⟨tr3,tr4,tr5⟩ q1 q2 (keeps_undrew q3) q4 GX.o.2.2.2.2.2.2.1 GX.o.2.2.2.2.2.2.2.1 H0.o.2.2.2.2.1.size
   have hne:∀k,c2 k=0\/c2 k=1->¬(k=bt\/k=bm\/some k=vt.ownBlock):=fun k e e'=>by
    have:c2 k=2:=by
     rcases e' with q | q | q
     ·rw [q];exact tr3
     ·rw [q];exact tr4
     exact tr5 k q.symm
    omega
   refine hK _ _ ⟨(q3.block P GX.o.2.1.lt (hne P (.inl GX.o.2.2.2.2.2.2.2.2))).trans GX.o.2.1,GX.o.1.same (q3.block br GX.o.1.lt (hne br (.inr GX.o.2.2.1)))⟩ ?_
   clear hK K
   refine qn ?_
   refine wpAnyH_done zj ?_ _
   go_wp2
   go_end0
   exact ⟨⟨_,rfl⟩,HS.o⟩
 ·obtain ⟨nx,tx,t1,t2,t3,t4,t5⟩:=H1.o.1.text
  have hA:∀x∈A,errO x=0:=fun x hx=>(H0.o.2.2.2.2.2.2.1.all x hx).1
  have hstep:=H0.o.2.2.2.2.2.2.1
  have hkn:KnownN A nd:=hstep.node (hstep.line (.inl rfl))
  obtain ⟨p,hp⟩:∃p,tx nd=some p:=Option.isSome_iff_exists.1 ((t4 nd).2 hkn)
  obtain ⟨vl,L,l1,l2,l3,l4⟩:=t5 nd p hp
  have hwf:Wf nd:=wf_of HX.o.2.2.1.1 HX.o.2.2.1.2
  have hLl:L.length<=140:=jw l2.len hlen
  have hln:=(⟨EV.o.op4.c1,EV.o.op4.c2,EV.o.c5,EV.o.c6⟩:Ln4 ad w1)
  have HL:Aside ((∀nd,(tx nd).isSome=true↔KnownN A nd)/\(∀nd p,tx nd=some p->LineC w1 c p nd A)/\LineIs A nd L/\(c p=hueOf nd/\∀g,vl.ownBlock=some g->c g=hueOf nd)/\(∀x∈A,errO x=0)/\StepOk A (t,b,n,105,nd,o,s,v)/\nx<=A.length/\c bx=3/\LineAt (p+1) w1 p vl L/\0<=nd):=⟨t4,t5,l2,⟨l3,l4⟩,hA,hstep,t1,t3,l1,by have:=known_pos hA hkn;omega⟩
  have hpl:=l1.lt
  have hbl:=t2.lt
  clear t1 t3 t4 t5 l2 l3 l4 hkn hA hstep
  obtain ⟨ch,hch⟩:=ins_value HL.o.2.2.2.2.2.1.ok rfl
  have hch:v=⟨#[ch]⟩:=hch
  subst hch
  have hidx:∀w,(Instr.index 9 (.string ⟨#[ch]⟩) (.int .i64 0)).run Tryz.prog w= .ok (.int .u8 (ch.toNat:Int)) w:=fun _=>zj
  go_wp2_with fail
  refine wp_region_H (S:=(fun w'=>OpBlk w' P (t,b,n,105,nd,o,s,⟨#[ch]⟩)/\RepCell w' br T' by_ kv bt bx bc/\w'.heap[bx]? =w1.heap[bx]?)) zj ⟨H1.o.2.1,H1.o.1.cell,rfl⟩ (fun hHeld=> ?_)
  refine tk 0 hHeld ?_
  refine tk 1 hHeld ?_
  refine tk 2 hHeld ?_
  refine tk 3 hHeld ?_ (hy:=Or.inl ⟨zu,yY⟩)
  refine tk 4 hHeld ?_
  refine tk 5 hHeld ?_ (hy:=Or.inl ⟨zu,zO⟩)
  refine tk 6 hHeld ?_ (hy:=Or.inl ⟨zu,yc⟩)
  refine tk 7 hHeld ?_ (hy:=Or.inl ⟨zu,zt⟩)
  refine tk 9 hHeld ?_
  refine tk 10 hHeld ?_ (hy:=Or.inl ⟨zu,yv⟩)
  refine tk 11 hHeld ?_
  refine tk 12 hHeld ?_ (hy:=Or.inl ⟨zu,by intro w' hSw;have j7:=(OpBlk.cells hSw.1).2.2.2.2.2.2.2.1;dsimp only at j7;clear hSw;go_simp;try with_reducible rfl⟩)
  refine tk 13 hHeld ?_
  refine wpAnyH_one (i:=8) zj rfl (fun K hK=> ?_)
  go_simp
  have hcall:=opid_is (t,b,n,105,nd,o,s,⟨#[ch]⟩) w1.drew HL.o.2.2.2.2.2.1.ok
  unfold encO at hcall
  dsimp only at hcall
  refine hcall.mono ?_
  clear hcall
  rintro e w2 ⟨rfl,hb2⟩
  have hbX:Below w1.heap.size w1 w2:=below_undrew hb2
  refine hK _ _ ⟨H1.o.2.1.later hbX,H1.o.1.cell.same (hbX.block _ H1.o.1.cell.lt),hbX.block _ hbl⟩ ?_
  clear hK K
  refine qn ?_
  refine wpAnyH_one (i:=14) zj rfl (fun K hK=> ?_)
  go_simp
  have hst:=HL.o.2.2.2.2.2.1
  have hidr:=id_range hst.ok
  have hrf:=err_refs hst.ok
  have hnew:idO (t,b,n,105,nd,o,s,⟨#[ch]⟩)∉L.map (·.1):=fun q=>by
   obtain ⟨x,hx,_,_,q⟩:=HL.o.2.2.1.mem.1 q
   exact hst.idnew x hx q
  have ho0:0<=o:=hrf.2.2.2.1
  have hol:o<idO (t,b,n,105,nd,o,s,⟨#[ch]⟩):=hrf.2.1
  have hoth:o=0\/o∈L.map (·.1):=by
   by_cases e:o=0
   ·exact .inl e
   exact .inr (HL.o.2.2.1.mem.2 (hst.letter (.inl ⟨rfl,by show 0<o;omega⟩)))
  have hcall:=insert_all w2 (p+1) p vl L (idO (t,b,n,105,nd,o,s,⟨#[ch]⟩)) o ch.toNat (hln.later hbX) (l1.later hbX) (by have:=hbX.size;omega) zi zi (UInt8.toNat_lt ch)
  have hz0:lnInsE (idO (t,b,n,105,nd,o,s,⟨#[ch]⟩)) o L=0:=by
   unfold lnInsE
   rw [if_pos ⟨hidr.1,hidr.2,ho0,hol⟩,if_neg hnew,if_pos hoth]
  have hz1:insL (idO (t,b,n,105,nd,o,s,⟨#[ch]⟩)) o ch.toNat L=put o (idO (t,b,n,105,nd,o,s,⟨#[ch]⟩),ch.toNat,false) L:=if_pos hz0
  rw [hz1] at hcall
  refine hcall.mono ?_
  clear hcall
  rintro e w3 ⟨rfl,hact⟩
  have hM:LineIs ((t,b,n,105,nd,o,s,⟨#[ch]⟩)::A) nd (put o (idO (t,b,n,105,nd,o,s,⟨#[ch]⟩),ch.toNat,false) L):=by
   have:=HL.o.2.2.1.ins (x:=(t,b,n,105,nd,o,s,⟨#[ch]⟩)) rfl rfl hnew (by have:=hidr.1;omega) hoth (hst.ungone nd)
   exact this
  have HS:Aside (AppOk B w c br by_ kv bt bx bc R ((t,b,n,105,nd,o,s,⟨#[ch]⟩)::A) T' w3):=apply_line_go H1.o.1 HL.o.2.2.2.2.1 (.inl rfl) HL.o.2.2.2.2.2.2.1 t2 HL.o.2.2.2.2.2.2.2.1 HL.o.1 HL.o.2.1 hp HL.o.2.2.2.2.2.2.2.2.1 HL.o.2.2.2.1 (actOk_undrew hbX hact) hM H1.o.2.2.1 H0.o.2.2.2.2.2.1 H0.o.2.2.2.2.1.size
  have hne:∀k,c k=0\/c k=1\/c k=3->¬(k=p\/some k=vl.ownBlock):=fun k e e'=>by
   have:c k=hueOf nd:=e'.elim (fun q=>by rw [q];exact HL.o.2.2.2.1.1) (fun q=>HL.o.2.2.2.1.2 k q.symm)
   unfold hueOf at this
   omega
  obtain ⟨v3,q1,q2,q3⟩:=actOk_undrew hbX hact
  refine hK _ _ ⟨(q2.block P hP1 (hne P (.inl H0.o.2.2.2.2.2.2.2.2))).trans H1.o.2.1,H1.o.1.cell.same (q2.block br H1.o.1.cell.lt (hne br (.inr (.inl H1.o.1.hue)))),q2.block bx hbl (hne bx (.inr (.inr HL.o.2.2.2.2.2.2.2.1)))⟩ ?_
  clear hK K
  refine qn ?_
  refine wpAnyH_done zj ?_ _
  go_wp2
  go_end0
  exact ⟨⟨_,rfl⟩,HS.o⟩
 ·obtain ⟨nx,tx,t1,t2,t3,t4,t5⟩:=H1.o.1.text
  have hA:∀x∈A,errO x=0:=fun x hx=>(H0.o.2.2.2.2.2.2.1.all x hx).1
  have hstep:=H0.o.2.2.2.2.2.2.1
  have hkn:KnownN A nd:=hstep.node (hstep.line (.inr (.inl rfl)))
  obtain ⟨p,hp⟩:∃p,tx nd=some p:=Option.isSome_iff_exists.1 ((t4 nd).2 hkn)
  obtain ⟨vl,L,l1,l2,l3,l4⟩:=t5 nd p hp
  have hwf:Wf nd:=wf_of HX.o.2.2.1.1 HX.o.2.2.1.2
  have hLl:L.length<=140:=jw l2.len hlen
  have hln:=(⟨EV.o.op4.c1,EV.o.op4.c2,EV.o.c5,EV.o.c6⟩:Ln4 ad w1)
  have HL:Aside ((∀nd,(tx nd).isSome=true↔KnownN A nd)/\(∀nd p,tx nd=some p->LineC w1 c p nd A)/\LineIs A nd L/\(c p=hueOf nd/\∀g,vl.ownBlock=some g->c g=hueOf nd)/\(∀x∈A,errO x=0)/\StepOk A (t,b,n,100,nd,o,s,v)/\nx<=A.length/\c bx=3/\LineAt (p+1) w1 p vl L/\0<=nd):=⟨t4,t5,l2,⟨l3,l4⟩,hA,hstep,t1,t3,l1,by have:=known_pos hA hkn;omega⟩
  have hpl:=l1.lt
  have hbl:=t2.lt
  clear t1 t3 t4 t5 l2 l3 l4 hkn hA hstep
  have hlnd:Ln4 ad w1.drew:=⟨hln.1,hln.2,hln.3,hln.4⟩
  go_wp2_with fail
  refine wp_region_H (S:=(fun w'=>OpBlk w' P (t,b,n,100,nd,o,s,v)/\RepCell w' br T' by_ kv bt bx bc/\w'.heap[bx]? =w1.heap[bx]?)) zj ⟨H1.o.2.1,H1.o.1.cell,rfl⟩ (fun hHeld=> ?_)
  refine tk 0 hHeld ?_
  refine tk 1 hHeld ?_
  refine tk 2 hHeld ?_
  refine tk 3 hHeld ?_ (hy:=Or.inl ⟨zu,yY⟩)
  refine tk 4 hHeld ?_
  refine tk 5 hHeld ?_ (hy:=Or.inl ⟨zu,zO⟩)
  refine tk 6 hHeld ?_ (hy:=Or.inl ⟨zu,yc⟩)
  refine tk 7 hHeld ?_
  refine tk 8 hHeld ?_ (hy:=Or.inl ⟨zu,yv⟩)
  refine wpAnyH_one (i:=9) zj rfl (fun K hK=> ?_)
  go_simp
  have hcall:=delete_all w1.drew (p+1) p vl L o hlnd (l1.later (jo _ w1).drew) zi
  refine hcall.mono ?_
  clear hcall
  rintro e w3 ⟨rfl,hact⟩
  have hbX:Below w1.heap.size w1 w1.drew:=(jo _ w1).drew
  have hM:LineIs ((t,b,n,100,nd,o,s,v)::A) nd (delL o L):=by
   have hlet:o∈L.map (·.1):=HL.o.2.2.1.mem.2 (HL.o.2.2.2.2.2.1.letter (.inr rfl))
   obtain ⟨i,hi⟩:=findL_isSome hlet
   unfold delL
   rw [hi]
   exact HL.o.2.2.1.del (x:=(t,b,n,100,nd,o,s,v)) rfl rfl hi
  have HS:Aside (AppOk B w c br by_ kv bt bx bc R ((t,b,n,100,nd,o,s,v)::A) T' w3):=apply_line_go H1.o.1 HL.o.2.2.2.2.1 (.inr rfl) HL.o.2.2.2.2.2.2.1 t2 HL.o.2.2.2.2.2.2.2.1 HL.o.1 HL.o.2.1 hp HL.o.2.2.2.2.2.2.2.2.1 HL.o.2.2.2.1 (actOk_undrew hbX hact) hM H1.o.2.2.1 H0.o.2.2.2.2.2.1 H0.o.2.2.2.2.1.size
  have hne:∀k,c k=0\/c k=1\/c k=3->¬(k=p\/some k=vl.ownBlock):=fun k e e'=>by
   have:c k=hueOf nd:=e'.elim (fun q=>by rw [q];exact HL.o.2.2.2.1.1) (fun q=>HL.o.2.2.2.1.2 k q.symm)
   unfold hueOf at this
   omega
  obtain ⟨v3,q1,q2,q3⟩:=actOk_undrew hbX hact
  refine hK _ _ ⟨(q2.block P hP1 (hne P (.inl H0.o.2.2.2.2.2.2.2.2))).trans H1.o.2.1,H1.o.1.cell.same (q2.block br H1.o.1.cell.lt (hne br (.inr (.inl H1.o.1.hue)))),q2.block bx hbl (hne bx (.inr (.inr HL.o.2.2.2.2.2.2.2.1)))⟩ ?_
  clear hK K
  refine qn ?_
  refine wpAnyH_done zj ?_ _
  go_wp2
  go_end0
  exact ⟨⟨_,rfl⟩,HS.o⟩
 go_wp2_with fail
 refine wp_region_H (S:=(fun w'=>OpBlk w' P (t,b,n,115,nd,o,s,v)/\RepCell w' br T' by_ kv bt bx bc/\w'.heap[bx]? =w1.heap[bx]?)) zj ⟨H1.o.2.1,H1.o.1.cell,rfl⟩ (fun hHeld=> ?_)
 refine tk 0 hHeld ?_
 refine tk 1 hHeld ?_
 refine tk 2 hHeld ?_
 refine tk 3 hHeld ?_ (hy:=Or.inl ⟨zu,by intro w' hSw;have r8:=hSw.2.1.c8;clear hSw;go_simp;try with_reducible rfl⟩)
 refine tk 4 hHeld ?_ (hy:=Or.inl ⟨zu,zt⟩)
 refine wpAnyH_one (i:=5) zj rfl (fun K hK=> ?_)
 go_simp
 obtain ⟨cm,A',m1,m2,m3,m4⟩:=H1.o.1.marks
 have hcall:=cset_all w1.drew bc cm A.length (madeO A') t b n 115 nd o s v (EV.o.later (jo _ w1).drew).op4 (m1.later (jo _ w1).drew) zi HX.o.1 HX.o.2.1
 refine hcall.mono ?_
 clear hcall
 rintro e w2 ⟨rfl,hset⟩
 have HS:Aside (AppOk B w c br by_ kv bt bx bc R ((t,b,n,115,nd,o,s,v)::A) T' w2):=apply_set_go H1.o.1 rfl m2 ⟨m3,m4⟩ ⟨hset.1,keeps_undrew hset.2⟩ H1.o.2.2.1 H0.o.2.2.2.2.2.1 H0.o.2.2.2.2.1.size
 have hcm:∀k,c k=0\/c k=1\/c k=3->k≠cm:=fun k e e'=>by rw [e',m4] at e;omega
 have hbx3:c bx=3/\bx<w1.heap.size:=by
  obtain ⟨nx,tx,_,q2,q3,_⟩:=H1.o.1.text
  exact ⟨q3,q2.lt⟩
 refine hK _ _ ⟨?_,?_,?_⟩ ?_
 ·exact (hset.2.block P hP1 (hcm P (.inl H0.o.2.2.2.2.2.2.2.2))).trans H1.o.2.1
 ·exact H1.o.1.cell.same (hset.2.block br H1.o.1.cell.lt (hcm br (.inr (.inl H1.o.1.hue))))
 ·exact hset.2.block bx hbx3.2 (hcm bx (.inr (.inr hbx3.1)))
 clear hK K
 refine qn ?_
 refine wpAnyH_done zj ?_ _
 go_wp2
 go_end0
 exact ⟨⟨_,rfl⟩,HS.o⟩
