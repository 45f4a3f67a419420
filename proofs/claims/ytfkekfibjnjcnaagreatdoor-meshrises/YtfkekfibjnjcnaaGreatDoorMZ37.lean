import Derived.Test.YtfkekfibjnjcnaaGreatDoorMZ36
set_option linter.unusedSimpArgs false
set_option linter.unusedVariables false
set_option maxRecDepth 100000
set_option maxHeartbeats 64000000
namespace Go.Proofs.YtfkekfibjnjcnaaGreatDoor
section
open Go.RowKit Go.Lib Go.Sort Go.Maps
open scoped Classical
def DiffOf (R:Rws) (u:Nat->Int) (F:List OpX):Prop:=∃ys,StableOf (allR R) ys/\F=ys.filter (fun x=> !heldV u x)
def DelRel (G:List OpX) (K K':Nat->Rws) (st:Nat->DSt) (N N':List NoteX) (at_:Int) (v:Value):Prop:=(¬(0<=at_/\at_<(N.length:Int))/\N'=N/\K'=K)\/∃(k:Nat) (x:NoteX),at_=(k:Int)/\N[k]? =some x/\((x.2.2.1=true/\v= .nilIface/\K'=K/\∃F,DiffOf (K x.2.1) x.2.2.2.1 F/\(((F= []\/30<=(N.eraseIdx k).length)/\N'=N.eraseIdx k)\/(F≠ []/\(N.eraseIdx k).length<30/\∃ao cap,N'=N.eraseIdx k++ [(x.2.1,x.1,false,fun _=>0,ao,cap,F)])))\/(x.2.2.1=false/\N'=N.eraseIdx k/\HeardM G K K' x.2.1 (opsN x)/\(Fits G (allR (K x.2.1)) (opsN x)->(st x.2.1).2.1=false->(st x.2.1).2.2.1=false->v= .nilIface)))
def DeliverOut (gd:Nat->Option Obj) (B n bm i:Nat) (G:List OpX) (K:Nat->Rws) (st:Nat->DSt) (N:List NoteX) (at_:Int) (w:World) (e:Ending) (w':World):Prop:=∃(v:Value) (K':Nat->Rws) (D':Nat->List OpX) (st':Nat->DSt) (N':List NoteX),e= .returned v/\Aside (MeshS gd B n bm K' st' N' w'/\Below B w w'/\MeshI n i G K' D' st' N'/\N'.length<=30/\DelRel G K K' st N N' at_ v/\((∃(k:Nat) (x:NoteX),at_=(k:Int)/\N[k]? =some x/\x.2.2.1=true)->st'=st))
theorem filter_len {R:Rws} {u:Nat->Int} {F:List OpX} (h:DiffOf R u F) (hR:RowsK R):F.Nodup/\∀x∈F,x∈allR R:=by
 obtain ⟨ys,h1,rfl⟩:=h
 obtain ⟨hp,_⟩:=stable_by h1
 exact ⟨((hp.nodup_iff).2 hR.num.nodup).sublist List.filter_sublist,fun x hx=>hp.mem_iff.1 (Zh.1 hx).1⟩
theorem deliver_any {gd:Nat->Option Obj} {B:Nat} {ad:Nat->Addr} {n bm:Nat} {K:Nat->Rws} {st:Nat->DSt} {N:List NoteX} {i:Nat} {G:List OpX} {D:Nat->List OpX} (w:World) (at_:Int) (h:MeshS gd B n bm K st N w) (hI:MeshI n i G K D st N) (hN:N.length<=30) (hE:EnvM B ad w) (hi:i<=125) (ho:(-9223372036854775808<=at_/\at_<=9223372036854775807)):
  Calls Tryz.prog 18 #[.pointer (some ⟨bm,0,none⟩),.int .i64 at_] w (DeliverOut gd B n bm i G K st N at_ w):=by
 obtain ⟨ow,pv,fv,bp,br,d,dv,c,hm⟩:=h
 have ht:=take_any w at_ hm hE hN ho
 have HM:Aside (MeshAt gd B w ow n bm pv fv bp br d dv c K st N/\EnvM B ad w/\MeshI n i G K D st N):=⟨hm,hE,hI⟩
 clear hm hE hI
 go_enter Tryz.func18,Tryz.ntmps18
 go_wp2_with fail
 refine ht.mono ?_
 clear ht
 rintro e w1 (⟨q,rfl,HB⟩ | ⟨k,⟨x1,x2,x3,x4,x5,x6,x7⟩,rfl,hk,rfl,HT⟩)
 ·have HQ:Aside (¬(0<=at_/\at_<(N.length:Int))):=q
  rw [eV_iface (show (6:Nat)≠0 by omega)]
  clear q
  go_wp2
  go_ret
  have hb:Below w.heap.size w (w1.alloc (.cells #[.int .i64 0,.int .i64 0,.bool false,.int .i64 0,.int .i64 0,.int .i64 0,.int .i64 0,.slice none 0 0] 82)):=HB.o.alloc HB.o.size _
  exact ⟨_,K,D,st,N,rfl,⟨_,_,_,_,_,_,_,_,HM.o.1.later hb⟩,hb.mono HM.o.1.base,HM.o.2.2,hN,.inl ⟨HQ.o,rfl,rfl⟩,fun _=>rfl⟩
 obtain ⟨x,hxe⟩:∃x:NoteX,Aside (x=(x1,x2,x3,x4,x5,x6,x7)):=⟨_,rfl⟩
 obtain ⟨hxk,ow1,fv1,hm1,hn1,hb1⟩:=HT.o
 have hxI:=HM.o.2.2.notes _ (vx hxk)
 obtain ⟨P,hP⟩:=ze w1.heap.size
 obtain ⟨V,hV⟩:=ze (w1.alloc (.cells #[.int .i64 (x1:Int),.int .i64 (x2:Int),.bool x3,.int .i64 (x4 0),.int .i64 (x4 1),.int .i64 (x4 2),.int .i64 (x4 3),.slice x5 x7.length x6] 82))
 have hbV:Below w1.heap.size w1 V:=by rw [hV.o];exact zh w1 _
 have hmV:=hm1.later hbV
 have XV:NtBlk V P x:=by rw [hV.o,hP.o,hxe.o];exact NtBlk.new w1 (x1,x2,x3,x4,x5,x6,x7)
 have hto:x2<n:=hn1.to_
 have hfr:x1<n:=hn1.from_
 have hel:(N.eraseIdx k).length<=30:=jO
 have hIe:MeshI n i G K D st (N.eraseIdx k):=HM.o.2.2.fly (fun y hy=>.inl (Zx hy))
 obtain ⟨po,pc,hpv⟩:=rowIs hmV.peers
 have hcell:∃g,po=some ⟨g,0,none⟩/\V.cell? ⟨g,x2,none⟩=some (.pointer (some ⟨bp x2,0,none⟩)):=by
  have hp:=hmV.peers
  rcases hp.2 with ⟨_,q⟩ | ⟨g,cap,cur,q,_⟩
  ·omega
  rw [hpv] at q
  cases q
  refine ⟨g,rfl,?_⟩
  rw [hpv] at hp
  rw [hp.cellAt x2 zj,ptrsP_get bp hto]
 obtain ⟨pg,rfl,hpc⟩:=hcell
 subst hpv
 have hmD:=hmV.later (vu _ V).drew
 have HV:Aside (MeshAt gd B V.drew ow1 n bm (.slice (some ⟨pg,0,none⟩) n pc) fv1 bp br d dv c K st (N.eraseIdx k)/\NtBlk V.drew P x/\Below B w V.drew/\NoteIn V.drew ow1 n x/\((∀y∈x7,y∈G)/\x7.length<=i)/\MeshI n i G K D st (N.eraseIdx k)/\x1<n/\N[k]? =some (x1,x2,x3,x4,x5,x6,x7)/\EnvM B ad V.drew):=⟨hmD,XV,(hb1.trans (hbV.mono hm1.base)).drew,by rw [hxe.o];exact (hn1.later hbV).later (vu _ V).drew,hxI,hIe,hfr,hxk,HM.o.2.1.mono ((hb1.trans (hbV.mono hm1.base)).drew)⟩
 have SD:MeshC V.drew bm (.slice (some ⟨pg,0,none⟩) n pc) fv1/\V.drew.cell? ⟨pg,x2,none⟩=some (.pointer (some ⟨bp x2,0,none⟩))/\NtBlk V.drew P x:=⟨hmD.mesh,hpc,XV⟩
 have wk:((x2:Int)).toNat=x2:=zj
 have pk:(0:Int)<=(x2:Int):=zj
 have bk:(x2:Int)<(n:Int):=zj
 unfold aggN valN
 dsimp only
 clear HT hm1 hn1 hb1 hxI hbV hmV XV hfr hIe hpc hmD hxk
 go_upto_region 4 with fail
 rw [<-hV.o,<-hP.o]
 refine wp_region_H (S:=(fun w'=>MeshC w' bm (.slice (some ⟨pg,0,none⟩) n pc) fv1/\w'.cell? ⟨pg,x2,none⟩=some (.pointer (some ⟨bp x2,0,none⟩))/\NtBlk w' P x)) zk SD (fun hHeld=> ?_)
 refine tk 0 hHeld ?_
 refine tk 1 hHeld ?_
 refine tk 2 hHeld ?_
 refine tk 3 hHeld ?_ (hy:=Or.inl ⟨zu,zA⟩)
 refine tk 4 hHeld ?_
 refine tk 5 hHeld ?_ (hy:=Or.inl ⟨zu,by intro w' hSw;have q9:=hSw.2.2;rw [hxe.o] at q9;obtain ⟨q0,q1,q2,q3,q4,q5,q6,q7,-⟩:=NtBlk.cells q9;unfold valN at q7;dsimp only at q0 q1 q2 q3 q4 q5 q6 q7;clear q9;clear hSw;go_simp;try with_reducible rfl⟩)
 refine tk 6 hHeld ?_
 refine tk 7 hHeld ?_ (hy:=Or.inl ⟨zu,by intro w' hSw;have q1:=hSw.2.1;clear hSw;go_simp;try with_reducible rfl⟩)
 refine wpAnyH_one (i:=8) zk rfl (fun kQ hK=> ?_)
 go_simp
 refine hK _ _ SD ?_
 clear hK kQ
 refine wpAnyH_done zk ?_ _
 refine qn ?_
 obtain ⟨Y,hY⟩:=ze V.drew
 rw [<-hY.o] at HV
 rw [<-hY.o]
 clear hHeld SD
 have XY:=HV.o.2.1
 rw [hxe.o] at XY
 obtain ⟨q0,q1,q2,q3,q4,q5,q6,q7,-⟩:=XY.cells
 unfold valN at q7
 dsimp only at q0 q1 q2 q3 q4 q5 q6 q7
 clear XY wk pk bk
 cases x3 with
 | false=>
  have hops:OpsIn Y x5 x7:=by
   have:=HV.o.2.2.2.1.ops
   rw [hxe.o] at this
   exact opsInM this
  have hln:=plearn_any Y x2 x5 x6 x7 HV.o.1 HV.o.2.2.2.2.2.1 HV.o.2.2.2.2.2.2.2.2 hto hi hops HV.o.2.2.2.2.1.1 (by have:=HV.o.2.2.2.2.1.2;omega)
  clear hops
  go_wp2_with fail
  refine hln.mono ?_
  clear hln
  rintro e w5 ⟨v5,K',D',st',rfl,H5⟩
  go_wp2
  go_ret
  exact ⟨_,K',D',st',N.eraseIdx k,rfl,H5.o.1,HV.o.2.2.1.trans H5.o.2.1,H5.o.2.2.1,hel,.inr ⟨k,_,rfl,HV.o.2.2.2.2.2.2.2.1,.inr ⟨rfl,rfl,H5.o.2.2.2.1,H5.o.2.2.2.2⟩⟩,fun ⟨k',x',e1,e2,e3⟩=>by
   obtain rfl:k=k':=zj
   rw [HV.o.2.2.2.2.2.2.2.1] at e2
   cases e2
   cases e3⟩
 | true=>
  have hmY:=HV.o.1.later (vu _ Y).drew
  have hdf:=pdiff_any Y.drew (c x2) (br x2) (x2:Int) (K x2) x4 (hmY.rep x2 hto).1.rep (by have:=HV.o.2.2.2.2.2.1.len hto;omega)
  have SD:PeerC Y.drew (bp x2) (br x2) (d x2)/\NtBlk Y.drew P x:=⟨(hmY.peer x2 hto).1,HV.o.2.1⟩
  have HY:Aside (MeshAt gd B Y.drew ow1 n bm (.slice (some ⟨pg,0,none⟩) n pc) fv1 bp br d dv c K st (N.eraseIdx k)):=hmY
  clear hmY q0 q1 q3 q4 q5 q6 q7
  go_upto_region 7 with fail
  refine wp_region_H (S:=(fun w'=>PeerC w' (bp x2) (br x2) (d x2)/\NtBlk w' P x)) zk SD (fun hHeld=> ?_)
  refine tk 0 hHeld ?_
  refine tk 1 hHeld ?_
  refine tk 2 hHeld ?_
  refine tk 3 hHeld ?_ (hy:=Or.inl ⟨zu,zA⟩)
  refine tk 4 hHeld ?_
  refine tk 5 hHeld ?_ (hy:=Or.inl ⟨zu,by intro w' hSw;have q9:=hSw.2;rw [hxe.o] at q9;obtain ⟨q0,q1,q2,q3,q4,q5,q6,q7,-⟩:=NtBlk.cells q9;unfold valN at q7;dsimp only at q0 q1 q2 q3 q4 q5 q6 q7;clear q9;clear hSw;go_simp;try with_reducible rfl⟩)
  refine wpAnyH_one (i:=6) zk rfl (fun kQ hK=> ?_)
  go_simp
  refine hdf.mono ?_
  clear hdf
  rintro e w3 ⟨ao,cap,F,rfl,H3⟩
  have S3:PeerC w3 (bp x2) (br x2) (d x2)/\NtBlk w3 P x:=⟨SD.1.same (H3.o.2.2.2.block _ SD.1.lt),SD.2.later H3.o.2.2.2⟩
  refine hK _ _ S3 ?_
  clear hK kQ SD hHeld
  refine qn ?_
  refine wpAnyH_one (i:=7) zk rfl (fun kQ hK=> ?_)
  go_simp
  refine hK _ _ S3 ?_
  clear hK kQ
  refine wpAnyH_done zk ?_ _
  refine qn ?_
  have hFl:=filter_len H3.o.1 (HV.o.2.2.2.2.2.1.rows x2 hto)
  have hFi:F.length<=i:=vr (len_sub hFl.1 (fun y hy=>HV.o.2.2.2.2.2.1.inv.sub x2 hto y (hFl.2 y hy))) HV.o.2.2.2.2.2.1.inv.len
  have hb3:Below B w w3:=HV.o.2.2.1.trans (((vu _ Y).drew.mono HV.o.1.base).trans (H3.o.2.2.2.mono HY.o.base))
  have X3:=S3.2
  rw [hxe.o] at X3
  obtain ⟨q0,q1,-,q3,q4,q5,q6,q7,-⟩:=X3.cells
  dsimp only at q0 q1
  clear S3 X3 q3 q4 q5 q6 q7
  by_cases hF:F= []
  ·have hF0:F.length=0:=by rw [hF];rfl
   have d0:decide ((0:Int)<(F.length:Int))=false:=by rw [hF0];rfl
   have d0n:decide (0<F.length)=false:=by rw [hF0];rfl
   have HF:Aside (DiffOf (K x2) x4 F/\F= []):=⟨H3.o.1,hF⟩
   have hm3:=HY.o.later H3.o.2.2.2
   have HM3:Aside (MeshS gd B n bm K st (N.eraseIdx k) w3/\Below B w w3):=⟨⟨_,_,_,_,_,_,_,_,hm3⟩,hb3⟩
   clear hF hF0 hm3 hb3 hFl H3
   go_wp2
   go_ret
   exact ⟨_,K,D,st,N.eraseIdx k,rfl,HM3.o.1,HM3.o.2,HV.o.2.2.2.2.2.1,hel,.inr ⟨k,_,rfl,HV.o.2.2.2.2.2.2.2.1,.inl ⟨rfl,rfl,rfl,F,HF.o.1,.inl ⟨.inl HF.o.2,rfl⟩⟩⟩,fun _=>rfl⟩
  have hFp:0<F.length:=uN.2 hF
  have d0:decide ((0:Int)<(F.length:Int))=true:=zl
  have d0n:decide (0<F.length)=true:=zl
  obtain ⟨hm3,hown3⟩:=HY.o.lend H3.o.2.2.2
  have hsd:=send_any w3 (x2,x1,false,fun _=>0,ao,cap,F) hm3 (HV.o.2.2.2.2.2.2.2.2.mono (((vu _ Y).drew.mono HV.o.1.base).trans (H3.o.2.2.2.mono HY.o.base))) ⟨hto,HV.o.2.2.2.2.2.2.1,H3.o.2.1,fun g hg=>hown3 g (H3.o.2.2.1 hF g hg).1 (H3.o.2.2.1 hF g hg).2⟩
  unfold aggN valN at hsd
  dsimp only at hsd
  have HF:Aside (DiffOf (K x2) x4 F/\F≠ []/\(∀y∈F,y∈G)/\Below B w w3/\F.length<=i):=⟨H3.o.1,hF,fun y hy=>HV.o.2.2.2.2.2.1.inv.sub x2 hto y (hFl.2 y hy),hb3,hFi⟩
  have HM3:Aside (MeshS gd B n bm K st (N.eraseIdx k) w3/\B<=w3.heap.size):=⟨⟨_,_,_,_,_,_,_,_,hm3⟩,hm3.base⟩
  clear hF hFp hm3 hown3 hb3 hFl hFi H3
  go_wp2_with fail
  refine hsd.mono ?_
  clear hsd
  rintro e w4 (⟨h30,rfl,HB⟩ | ⟨h30,rfl,HB⟩)
  ·rw [eV_iface (show (8:Nat)≠0 by omega)]
   go_wp2
   go_ret
   obtain ⟨_,_,_,_,_,_,_,_,hm3⟩:=HM3.o.1
   exact ⟨_,K,D,st,N.eraseIdx k,rfl,⟨_,_,_,_,_,_,_,_,hm3.later HB.o⟩,HF.o.2.2.2.1.trans (HB.o.mono HM3.o.2),HV.o.2.2.2.2.2.1,hel,.inr ⟨k,_,rfl,HV.o.2.2.2.2.2.2.2.1,.inl ⟨rfl,rfl,rfl,F,HF.o.1,.inl ⟨.inr h30,rfl⟩⟩⟩,fun _=>rfl⟩
  go_wp2
  go_ret
  obtain ⟨fv',ow',hm',hb'⟩:=HB.o
  refine ⟨_,K,D,st,_,rfl,⟨_,_,_,_,_,_,_,_,hm'⟩,HF.o.2.2.2.1.trans hb',HV.o.2.2.2.2.2.1.fly (fun y hy=> ?_),by rw [vw];simp;omega,.inr ⟨k,_,rfl,HV.o.2.2.2.2.2.2.2.1,.inl ⟨rfl,rfl,rfl,F,HF.o.1,.inr ⟨HF.o.2.1,h30,ao,cap,rfl⟩⟩⟩,fun _=>rfl⟩
  rcases vv.1 hy with p | p
  ·exact .inl p
  rw [vA.1 p];exact .inr ⟨HF.o.2.2.1,HF.o.2.2.2.2⟩
