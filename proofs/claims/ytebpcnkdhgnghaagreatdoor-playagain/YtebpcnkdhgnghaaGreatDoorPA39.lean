import Derived.Test.YtebpcnkdhgnghaaGreatDoorPA36
import Derived.Test.YtebpcnkdhgnghaaGreatDoorPA38
set_option linter.unusedSimpArgs false
set_option linter.unusedVariables false
set_option maxRecDepth 100000
set_option maxHeartbeats 64000000
namespace Go.Proofs.YtebpcnkdhgnghaaGreatDoor
variable {T:Int} {cs:List Int} {N N' N0:List aO} {A G l:List OpX} {B a bm i m n:Nat} {ad:Nat→Addr} {st st' st0:Nat→DSt} {D0:Nat→List OpX} {bp br d ow:Nat→Nat} {gd gd':Nat→Option Obj} {K K' K0:Nat→Rws} {dv:Nat→Value} {x:OpX} {R:Rws} {fv pv v:Value} {w w':World}
section
open Go.RowKit Go.Lib Go.Sort Go.Maps
open scoped Classical
def Dj (G:List OpX) (K K':Nat->Rws) (st:Nat->DSt) (N N':List aO) (at_:Int) (v:Value):Prop:=(¬(0<=at_/\at_<(N.length:Int))/\N'=N/\K'=K)\/∃(k:Nat) (x:aO),at_=(k:Int)/\N[k]? =some x/\((x.2.2.1=true/\v= .nilIface/\K'=K/\∃F,fX (K x.2.1) x.2.2.2.1 F/\(((F= []\/30<=(N.eraseIdx k).length)/\N'=N.eraseIdx k)\/(F≠ []/\(N.eraseIdx k).length<30/\∃ao cap,N'=N.eraseIdx k++ [(x.2.1,x.1,false,fun _=>0,ao,cap,F)])))\/(x.2.2.1=false/\N'=N.eraseIdx k/\Jo G K K' x.2.1 (Cd x)/\(KF G (aX (K x.2.1)) (Cd x)->(st x.2.1).2.1=false->(st x.2.1).2.2.1=false->v= .nilIface)))
def Ok (ad:Nat->Addr) (K K':Nat->Rws) (st st':Nat->DSt) (N:List aO) (at_:Int) (v:Value):Prop:=(¬(0<=at_/\at_<(N.length:Int))->v=eV ad 6/\st'=st)/\∀(k:Nat) (x:aO),at_=(k:Int)->N[k]? =some x->x.2.2.1=false->Ed ad K K' st st' x.2.1 (Cd x) v
def BD (gd:Nat->Option Obj) (B n bm i:Nat) (ad:Nat->Addr) (G:List OpX) (K:Nat->Rws) (st:Nat->DSt) (N:List aO) (at_:Int) (w:World) (e:Ending) (w':World):Prop:=∃(v:Value) (K':Nat->Rws) (D':Nat->List OpX) (st':Nat->DSt) (N':List aO),e= .returned v/\Aside (MeshS gd B n bm K' st' N' w'/\Below B w w'/\MeshI n i G K' D' st' N'/\N'.length<=30/\Dj G K K' st N N' at_ v/\((∃(k:Nat) (x:aO),at_=(k:Int)/\N[k]? =some x/\x.2.2.1=true)->st'=st))/\Aside (Ok ad K K' st st' N at_ v)
theorem Cy {u:Nat->Int} {F:List OpX} (h:fX R u F) (hR:RowsK R):F.Nodup/\∀x∈F,x∈aX R:=by
 obtain ⟨ys,h1,rfl⟩:=h
 obtain ⟨hp,_⟩:=bG h1
 exact ⟨((hp.nodup_iff).2 hR.num.nodup).sublist List.filter_sublist,fun x hx=>hp.mem_iff.1 (uN.1 hx).1⟩
theorem mu {D:Nat->List OpX} (w:World) (at_:Int) (h:MeshS gd B n bm K st N w) (hI:MeshI n i G K D st N) (hN:N.length<=30) (hE:EnvM B ad w) (hi:i<=155) (ho:(-9223372036854775808<=at_/\at_<=9223372036854775807)):
  Calls Tryz.prog 45 #[.pointer (some ⟨bm,0,none⟩),.int .i64 at_] w (BD gd B n bm i ad G K st N at_ w):=by
 obtain ⟨ow,pv,fv,bp,br,d,dv,c,hm⟩:=h
 have ht:=AE w at_ hm hE hN ho
 have HM:Aside (MeshAt gd B w ow n bm pv fv bp br d dv c K st N/\EnvM B ad w/\MeshI n i G K D st N):=⟨hm,hE,hI⟩
 clear hm hE hI
 go_enter Tryz.func45,Tryz.ntmps45
 go_wp2_with fail
 refine ht.mono ?_
 clear ht
 rintro e w1 (⟨q,rfl,HB⟩ | ⟨k,⟨x1,x2,x3,x4,x5,x6,x7⟩,rfl,hk,rfl,HT⟩)
 ·have HQ:Aside (¬(0<=at_/\at_<(N.length:Int))):=q
  rw [aw (show (6:Nat)≠0 by omega)]
  clear q
  go_wp2
  go_ret
  have hb:Below w.heap.size w (w1.alloc (.cells #[.int .i64 0,.int .i64 0,.bool false,.int .i64 0,.int .i64 0,.int .i64 0,.int .i64 0,.slice none 0 0] 175)):=HB.o.alloc HB.o.size _
  exact ⟨_,K,D,st,N,rfl,⟨⟨_,_,_,_,_,_,_,_,HM.o.1.later hb⟩,hb.mono HM.o.1.base,HM.o.2.2,hN,.inl ⟨HQ.o,rfl,rfl⟩,fun _=>rfl⟩,fun _=>⟨(aw (show (6:Nat)≠0 by omega)).symm,rfl⟩,fun k' x' e1 e2 _=>absurd ⟨zj,by have:=(jI.1 e2).1;omega⟩ HQ.o⟩
 obtain ⟨x,hxe⟩:∃x:aO,Aside (x=(x1,x2,x3,x4,x5,x6,x7)):=⟨_,rfl⟩
 obtain ⟨hxk,ow1,fv1,hm1,hn1,hb1⟩:=HT.o
 have hxI:=HM.o.2.2.notes _ (jT hxk)
 obtain ⟨P,hP⟩:=ze w1.heap.size
 obtain ⟨V,hV⟩:=ze (w1.alloc (.cells #[.int .i64 (x1:Int),.int .i64 (x2:Int),.bool x3,.int .i64 (x4 0),.int .i64 (x4 1),.int .i64 (x4 2),.int .i64 (x4 3),.slice x5 x7.length x6] 175))
 have hbV:Below w1.heap.size w1 V:=by rw [hV.o];exact zh w1 _
 have hmV:=hm1.later hbV
 have XV:NtBlk V P x:=by rw [hV.o,hP.o,hxe.o];exact NtBlk.new w1 (x1,x2,x3,x4,x5,x6,x7)
 have hto:x2<n:=hn1.to_
 have hfr:x1<n:=hn1.from_
 have hel:(N.eraseIdx k).length<=30:=ju
 have hIe:MeshI n i G K D st (N.eraseIdx k):=HM.o.2.2.fly (fun y hy=>.inl (uh hy))
 obtain ⟨po,pc,hpv⟩:=dV hmV.peers
 have hcell:∃g,po=some ⟨g,0,none⟩/\V.cell? ⟨g,x2,none⟩=some (.pointer (some ⟨bp x2,0,none⟩)):=by
  have hp:=hmV.peers
  rcases hp.2 with ⟨_,q⟩ | ⟨g,cap,cur,q,_⟩
  ·omega
  rw [hpv] at q
  cases q
  refine ⟨g,rfl,?_⟩
  rw [hpv] at hp
  rw [hp.cellAt x2 zj,lI bp hto]
 obtain ⟨pg,rfl,hpc⟩:=hcell
 subst hpv
 have hmD:=hmV.later (jN _ V).drew
 have HV:Aside (MeshAt gd B V.drew ow1 n bm (.slice (some ⟨pg,0,none⟩) n pc) fv1 bp br d dv c K st (N.eraseIdx k)/\NtBlk V.drew P x/\Below B w V.drew/\NoteIn V.drew ow1 n x/\((∀y∈x7,y∈G)/\x7.length<=i)/\MeshI n i G K D st (N.eraseIdx k)/\x1<n/\N[k]? =some (x1,x2,x3,x4,x5,x6,x7)/\EnvM B ad V.drew):=⟨hmD,XV,(hb1.trans (hbV.mono hm1.base)).drew,by rw [hxe.o];exact (hn1.later hbV).later (jN _ V).drew,hxI,hIe,hfr,hxk,HM.o.2.1.mono ((hb1.trans (hbV.mono hm1.base)).drew)⟩
 have SD:MeshC V.drew bm (.slice (some ⟨pg,0,none⟩) n pc) fv1/\V.drew.cell? ⟨pg,x2,none⟩=some (.pointer (some ⟨bp x2,0,none⟩))/\NtBlk V.drew P x:=⟨hmD.mesh,hpc,XV⟩
 have wk:((x2:Int)).toNat=x2:=zj
 have pk:(0:Int)<=(x2:Int):=zj
 have bk:(x2:Int)<(n:Int):=zj
 unfold Jn lE
 dsimp only
 clear HT hm1 hn1 hb1 hxI hbV hmV XV hfr hIe hpc hmD hxk
 go_upto_region 4 with fail
 rw [<-hV.o,<-hP.o]
 refine aM (S:=(fun w'=>MeshC w' bm (.slice (some ⟨pg,0,none⟩) n pc) fv1/\w'.cell? ⟨pg,x2,none⟩=some (.pointer (some ⟨bp x2,0,none⟩))/\NtBlk w' P x)) zk SD (fun hHeld=> ?_)
 refine tk 0 hHeld ?_
 refine tk 1 hHeld ?_
 refine tk 2 hHeld ?_
 refine tk 3 hHeld ?_ (hy:=Or.inl ⟨zt,zB⟩)
 refine tk 4 hHeld ?_
 refine tk 5 hHeld ?_ (hy:=Or.inl ⟨zt,by intro w' hSw;have q9:=hSw.2.2;rw [hxe.o] at q9;obtain ⟨q0,q1,q2,q3,q4,q5,q6,q7,-⟩:=NtBlk.cells q9;unfold lE at q7;dsimp only at q0 q1 q2 q3 q4 q5 q6 q7;clear q9;clear hSw;go_simp;try with_reducible rfl⟩)
 refine tk 6 hHeld ?_
 refine tk 7 hHeld ?_ (hy:=Or.inl ⟨zt,by intro w' hSw;have q1:=hSw.2.1;clear hSw;go_simp;try with_reducible rfl⟩)
 refine aZ (i:=8) zk rfl (fun kQ hK=> ?_)
 go_simp
 refine hK _ _ SD ?_
 clear hK kQ
 refine wpAnyH_done zk ?_ _
 refine qn ?_
 obtain ⟨Y,hY⟩:=ze V.drew
 rw [<-hY.o] at HV
 rw [<-hY.o]
 clear hHeld SD
 have XY:=HV.o.2.1
 rw [hxe.o] at XY
 obtain ⟨q0,q1,q2,q3,q4,q5,q6,q7,-⟩:=XY.cells
 unfold lE at q7
 dsimp only at q0 q1 q2 q3 q4 q5 q6 q7
 clear XY wk pk bk
 cases x3 with
 | false=>
  have hops:OpsIn Y x5 x7:=by
   have:=HV.o.2.2.2.1.ops
   rw [hxe.o] at this
   exact JE this
  have hln:=Ct Y x2 x5 x6 x7 HV.o.1 HV.o.2.2.2.2.2.1 HV.o.2.2.2.2.2.2.2.2 hto hi hops HV.o.2.2.2.2.1.1 (by have:=HV.o.2.2.2.2.1.2;omega)
  clear hops
  go_wp2_with fail
  refine hln.mono ?_
  clear hln
  rintro e w5 ⟨v5,K',D',st',rfl,H5⟩
  go_wp2
  go_ret
  exact ⟨_,K',D',st',N.eraseIdx k,rfl,⟨H5.o.1,HV.o.2.2.1.trans H5.o.2.1,H5.o.2.2.1,hel,.inr ⟨k,_,rfl,HV.o.2.2.2.2.2.2.2.1,.inr ⟨rfl,rfl,H5.o.2.2.2.1,H5.o.2.2.2.2.1⟩⟩,fun ⟨k',x',e1,e2,e3⟩=>by
   obtain rfl:k=k':=zj
   rw [HV.o.2.2.2.2.2.2.2.1] at e2
   cases e2
   cases e3⟩,fun q=>absurd ⟨zj,zj⟩ q,fun k' x' e1 e2 _=>by
   obtain rfl:k=k':=zj
   rw [HV.o.2.2.2.2.2.2.2.1] at e2
   cases e2
   exact H5.o.2.2.2.2.2⟩
 | true=>
  have hmY:=HV.o.1.later (jN _ Y).drew
  have hdf:=rb Y.drew (c x2) (br x2) (x2:Int) (K x2) x4 (hmY.rep x2 hto).1.rep (by have:=HV.o.2.2.2.2.2.1.len hto;omega)
  have SD:PeerC Y.drew (bp x2) (br x2) (d x2)/\NtBlk Y.drew P x:=⟨(hmY.peer x2 hto).1,HV.o.2.1⟩
  have HY:Aside (MeshAt gd B Y.drew ow1 n bm (.slice (some ⟨pg,0,none⟩) n pc) fv1 bp br d dv c K st (N.eraseIdx k)):=hmY
  clear hmY q0 q1 q3 q4 q5 q6 q7
  go_upto_region 7 with fail
  refine aM (S:=(fun w'=>PeerC w' (bp x2) (br x2) (d x2)/\NtBlk w' P x)) zk SD (fun hHeld=> ?_)
  refine tk 0 hHeld ?_
  refine tk 1 hHeld ?_
  refine tk 2 hHeld ?_
  refine tk 3 hHeld ?_ (hy:=Or.inl ⟨zt,zB⟩)
  refine tk 4 hHeld ?_
  refine tk 5 hHeld ?_ (hy:=Or.inl ⟨zt,by intro w' hSw;have q9:=hSw.2;rw [hxe.o] at q9;obtain ⟨q0,q1,q2,q3,q4,q5,q6,q7,-⟩:=NtBlk.cells q9;unfold lE at q7;dsimp only at q0 q1 q2 q3 q4 q5 q6 q7;clear q9;clear hSw;go_simp;try with_reducible rfl⟩)
  refine aZ (i:=6) zk rfl (fun kQ hK=> ?_)
  go_simp
  refine hdf.mono ?_
  clear hdf
  rintro e w3 ⟨ao,cap,F,rfl,H3⟩
  have S3:PeerC w3 (bp x2) (br x2) (d x2)/\NtBlk w3 P x:=⟨SD.1.same (H3.o.2.2.2.block _ SD.1.lt),SD.2.later H3.o.2.2.2⟩
  refine hK _ _ S3 ?_
  clear hK kQ SD hHeld
  refine qn ?_
  refine aZ (i:=7) zk rfl (fun kQ hK=> ?_)
  go_simp
  refine hK _ _ S3 ?_
  clear hK kQ
  refine wpAnyH_done zk ?_ _
  refine qn ?_
  have hFl:=Cy H3.o.1 (HV.o.2.2.2.2.2.1.rows x2 hto)
  have hFi:F.length<=i:=jM (dD hFl.1 (fun y hy=>HV.o.2.2.2.2.2.1.inv.sub x2 hto y (hFl.2 y hy))) HV.o.2.2.2.2.2.1.inv.len
  have hb3:Below B w w3:=HV.o.2.2.1.trans (((jN _ Y).drew.mono HV.o.1.base).trans (H3.o.2.2.2.mono HY.o.base))
  have X3:=S3.2
  rw [hxe.o] at X3
  obtain ⟨q0,q1,-,q3,q4,q5,q6,q7,-⟩:=X3.cells
  dsimp only at q0 q1
  clear S3 X3 q3 q4 q5 q6 q7
  by_cases hF:F= []
  ·have hF0:F.length=0:=by rw [hF];rfl
   have d0:decide ((0:Int)<(F.length:Int))=false:=by rw [hF0];rfl
   have d0n:decide (0<F.length)=false:=by rw [hF0];rfl
   have HF:Aside (fX (K x2) x4 F/\F= []):=⟨H3.o.1,hF⟩
   have hm3:=HY.o.later H3.o.2.2.2
   have HM3:Aside (MeshS gd B n bm K st (N.eraseIdx k) w3/\Below B w w3):=⟨⟨_,_,_,_,_,_,_,_,hm3⟩,hb3⟩
   clear hF hF0 hm3 hb3 hFl H3
   go_wp2
   go_ret
   exact ⟨_,K,D,st,N.eraseIdx k,rfl,⟨HM3.o.1,HM3.o.2,HV.o.2.2.2.2.2.1,hel,.inr ⟨k,_,rfl,HV.o.2.2.2.2.2.2.2.1,.inl ⟨rfl,rfl,rfl,F,HF.o.1,.inl ⟨.inl HF.o.2,rfl⟩⟩⟩,fun _=>rfl⟩,fun q=>absurd ⟨zj,zj⟩ q,fun k' x' e1 e2 e3=>by
    obtain rfl:k=k':=zj
    rw [HV.o.2.2.2.2.2.2.2.1] at e2
    cases e2
    cases e3⟩
  have hFp:0<F.length:=uF.2 hF
  have d0:decide ((0:Int)<(F.length:Int))=true:=zl
  have d0n:decide (0<F.length)=true:=zl
  obtain ⟨hm3,hown3⟩:=HY.o.lend H3.o.2.2.2
  have hsd:=pX w3 (x2,x1,false,fun _=>0,ao,cap,F) hm3 (HV.o.2.2.2.2.2.2.2.2.mono (((jN _ Y).drew.mono HV.o.1.base).trans (H3.o.2.2.2.mono HY.o.base))) ⟨hto,HV.o.2.2.2.2.2.2.1,H3.o.2.1,fun g hg=>hown3 g (H3.o.2.2.1 hF g hg).1 (H3.o.2.2.1 hF g hg).2⟩
  unfold Jn lE at hsd
  dsimp only at hsd
  have HF:Aside (fX (K x2) x4 F/\F≠ []/\(∀y∈F,y∈G)/\Below B w w3/\F.length<=i):=⟨H3.o.1,hF,fun y hy=>HV.o.2.2.2.2.2.1.inv.sub x2 hto y (hFl.2 y hy),hb3,hFi⟩
  have HM3:Aside (MeshS gd B n bm K st (N.eraseIdx k) w3/\B<=w3.heap.size):=⟨⟨_,_,_,_,_,_,_,_,hm3⟩,hm3.base⟩
  clear hF hFp hm3 hown3 hb3 hFl hFi H3
  go_wp2_with fail
  refine hsd.mono ?_
  clear hsd
  rintro e w4 (⟨h30,rfl,HB⟩ | ⟨h30,rfl,HB⟩)
  ·rw [aw (show (8:Nat)≠0 by omega)]
   go_wp2
   go_ret
   obtain ⟨_,_,_,_,_,_,_,_,hm3⟩:=HM3.o.1
   exact ⟨_,K,D,st,N.eraseIdx k,rfl,⟨⟨_,_,_,_,_,_,_,_,hm3.later HB.o⟩,HF.o.2.2.2.1.trans (HB.o.mono HM3.o.2),HV.o.2.2.2.2.2.1,hel,.inr ⟨k,_,rfl,HV.o.2.2.2.2.2.2.2.1,.inl ⟨rfl,rfl,rfl,F,HF.o.1,.inl ⟨.inr h30,rfl⟩⟩⟩,fun _=>rfl⟩,fun q=>absurd ⟨zj,zj⟩ q,fun k' x' e1 e2 e3=>by
    obtain rfl:k=k':=zj
    rw [HV.o.2.2.2.2.2.2.2.1] at e2
    cases e2
    cases e3⟩
  go_wp2
  go_ret
  obtain ⟨fv',ow',hm',hb'⟩:=HB.o
  refine ⟨_,K,D,st,_,rfl,⟨⟨_,_,_,_,_,_,_,_,hm'⟩,HF.o.2.2.2.1.trans hb',HV.o.2.2.2.2.2.1.fly (fun y hy=> ?_),by rw [jP];simp;omega,.inr ⟨k,_,rfl,HV.o.2.2.2.2.2.2.2.1,.inl ⟨rfl,rfl,rfl,F,HF.o.1,.inr ⟨HF.o.2.1,h30,ao,cap,rfl⟩⟩⟩,fun _=>rfl⟩,fun q=>absurd ⟨zj,zj⟩ q,fun k' x' e1 e2 e3=>by
   obtain rfl:k=k':=zj
   rw [HV.o.2.2.2.2.2.2.2.1] at e2
   cases e2
   cases e3⟩
  rcases jO.1 hy with p | p
  ·exact .inl p
  rw [jS.1 p];exact .inr ⟨HF.o.2.2.1,HF.o.2.2.2.2⟩
end
section
open Go.RowKit Go.Lib Go.Sort Go.Maps
open scoped Classical
theorem wW {S:List OpX} {ix:Int} {cd:Nat} (h:cX S l (.inl (ix,cd))):1<=cd/\cd<=12/\(ix= -1\/0<=ix):=by
 have hsift:∀(l:List OpX) (i:Nat) (F:List OpX) (a:Nat×Nat),cA S i F l= .inl a->1<=a.2/\a.2<=12:=by
  intro l
  induction l with
  | nil=>intro i F a ha;cases ha
  | cons o t ih=>
   intro i F a ha
   by_cases he:bY o=0
   ·cases hl:bF (S++F) (byO o) (ah o) with
    | none=>rw [lQ he hl] at ha;exact ih _ _ _ ha
    | some x=>
     by_cases hx:x=o
     ·subst hx
      rw [fH he hl] at ha
      exact ih _ _ _ ha
     rw [gZ he hl hx] at ha
     cases ha
     exact ⟨by show 1<=7;decide,by show 7<=12;decide⟩
   rw [pT he] at ha
   cases ha
   have:=En o
   exact ⟨by show 1<=bY o;omega,by show bY o<=12;omega⟩
 unfold cX at h
 cases hs:cA S 0 [] l with
 | inl p=>
  obtain ⟨i,c⟩:=p
  rw [hs] at h
  have:=hsift l 0 [] (i,c) hs
  dsimp only at h this
  cases h
  exact ⟨this.1,this.2,.inr zj⟩
 | inr fresh=>
  rw [hs] at h
  dsimp only at h
  rcases h with ⟨_,e⟩ | ⟨_,_,e⟩ | ⟨_,_,_,e⟩ | ⟨_,_,e⟩ | ⟨_,_,e⟩
  all_goals first
   | (cases e;exact ⟨zo,zo,.inl rfl⟩)
   | cases e
def wD (K K':Nat->Rws) (st st':Nat->DSt) (a:Nat) (l:List OpX) (cd:Nat):Prop:=(∃ix,cX (aX (K a)) l (.inl (ix,cd))/\K'=K/\st'=st)\/(∃fresh R' F,cX (aX (K a)) l (.inr fresh)/\K'=aN K a R'/\RowsK R'/\(∀x,x∈aX R'↔x∈aX (K a)\/x∈l)/\fX R' (dY (K a)) F/\cd=(dS (st a) F).1/\st'=aN st a (dS (st a) F).2)
theorem FV (s:DSt) (x:OpX):(dW s x).1<=12:=by
 unfold dW
 split
 ·show iN x<=12
  exact jM (show iN x<=5 from En x) zj
 split
 ·show 8<=12;omega
 split
 ·show 0<=12;omega
 show 11<=12;omega
theorem rQ:∀(F:List OpX) (s:DSt),(dS s F).1<=12
 | [],s=>by show 0<=12;omega
 | y::ys,s=>by
  show (if (dW s y).1=0 then dS (dW s y).2 ys else dW s y).1<=12
  split
  ·exact rQ ys _
  exact FV s y
theorem MO (h:Ed ad K K' st st' a l v):∃cd,v=eV ad cd/\cd<=12/\wD K K' st st' a l cd:=by
 rcases h with ⟨ix,cd,h1,h2,h3,h4,h5⟩ | ⟨fresh,R',F,h1,h2,h3,h4,h5,h6,h7⟩
 ·exact ⟨cd,h3,(wW h1).2.1,.inl ⟨ix,h1,h4,h5⟩⟩
 exact ⟨_,h6,rQ F _,.inr ⟨fresh,R',F,h1,h2,h3,h4,h5,rfl,h7⟩⟩
def Nh (K:Nat->Rws) (st:Nat->DSt) (N:List aO) (r s:Nat) (K':Nat->Rws) (st':Nat->DSt) (N':List aO) (cd:Nat):Prop:=K'=K/\st'=st/\((N.length<30/\cd=0/\N'=N++ [mp r s (dY (K r))])\/(30<=N.length/\cd=8/\N'=N))
def OS (K:Nat->Rws) (st:Nat->DSt) (N:List aO) (m:Nat) (K':Nat->Rws) (st':Nat->DSt) (N':List aO) (cd:Nat):Prop:=K'=K/\st'=st/\((N.length<=m/\cd=6/\N'=N)\/(m<N.length/\cd=0/\N'=N.eraseIdx m))
def Ng (K:Nat->Rws) (st:Nat->DSt) (N:List aO) (m:Nat) (K':Nat->Rws) (st':Nat->DSt) (N':List aO) (cd:Nat):Prop:=K'=K/\st'=st/\((N.length<=m/\cd=6/\N'=N)\/∃x,N[m]? =some x/\((N.length<30/\cd=0/\N'=N++ [x])\/(30<=N.length/\cd=8/\N'=N)))
def Nd (K:Nat->Rws) (st:Nat->DSt) (N:List aO) (m:Nat) (K':Nat->Rws) (st':Nat->DSt) (N':List aO) (cd:Nat):Prop:=(N.length<=m/\cd=6/\K'=K/\st'=st/\N'=N)\/∃x:aO,N[m]? =some x/\((x.2.2.1=true/\cd=0/\K'=K/\st'=st/\∃F,fX (K x.2.1) x.2.2.2.1 F/\(((F= []\/30<=(N.eraseIdx m).length)/\N'=N.eraseIdx m)\/(F≠ []/\(N.eraseIdx m).length<30/\∃ao cap,N'=N.eraseIdx m++ [(x.2.1,x.1,false,fun _=>0,ao,cap,F)])))\/(x.2.2.1=false/\N'=N.eraseIdx m/\wD K K' st st' x.2.1 (Cd x) cd))
theorem OD {ad:Nat->Addr} {G:List OpX} {K K':Nat->Rws} {st st':Nat->DSt} {N N':List aO} {m:Nat} {v:Value} (h:Dj G K K' st N N' (m:Int) v) (h2:(∃(k:Nat) (x:aO),(m:Int)=(k:Int)/\N[k]? =some x/\x.2.2.1=true)->st'=st) (h3:Ok ad K K' st st' N (m:Int) v):∃cd,v=eV ad cd/\cd<=12/\Nd K st N m K' st' N' cd:=by
 rcases h with ⟨q,e1,e2⟩ | ⟨k,x,e,hx,h⟩
 ·obtain ⟨v1,s1⟩:=h3.1 q
  exact ⟨6,v1,zj,.inl ⟨zj,rfl,e2,s1,e1⟩⟩
 obtain rfl:m=k:=zj
 rcases h with ⟨ha,hv,hK,F,hF,hN⟩ | ⟨ha,hN,_,_⟩
 ·exact ⟨0,hv,zj,.inr ⟨x,hx,.inl ⟨ha,rfl,hK,h2 ⟨m,x,rfl,hx,ha⟩,F,hF,hN⟩⟩⟩
 obtain ⟨cd,hv,hc,hy⟩:=MO (h3.2 m x rfl hx ha)
 exact ⟨cd,hv,hc,.inr ⟨x,hx,.inr ⟨ha,hN,hy⟩⟩⟩
theorem NY {a:OpX×Nat} (h:mg A T i n x a):a.2<=12:=by
 rcases h with ⟨_,h⟩ | ⟨_,_,_,_,h⟩
 ·exact MX h
 rw [h];show 5<=12;omega
theorem Lz {a:OpX×Nat} (h:mg A T i n x a) (hc:a.2≠0):a.1=aT:=by
 rcases h with ⟨_,h⟩ | ⟨_,_,_,_,h⟩
 ·exact FN h hc
 rw [h]
theorem Kn (hR:RowsK R) {y:OpX} (h:mg (aX R) T i (R i).length x (y,0)):NextOp R i T y:=by
 rcases h with ⟨_,h⟩ | ⟨_,_,_,_,h⟩
 ·exact GZ hR h
 cases h
theorem Av {B:Nat} {ad:Nat->Addr} (w:World) (c:Nat->Nat) (p br d:Nat) (i:Nat) (R:Rws) (x:OpX) (hP:PeerC w p br d) (h:RepOwn B w c br (i:Int) R) (hE:EnvM B ad w) (hi:i<4) (hn:(aX R).length<=250) (hx:Oi x):
  Calls Tryz.prog 270 #[.pointer (some ⟨p,0,none⟩),ar x] w (IR ad w R i (fun y cd=>∃T,cD (aX R) T/\mg (aX R) T i (R i).length x (y,cd))):=by
 obtain ⟨T,kv,bt,bx,bc,A,hm',hp,ht⟩:=h.rep.time
 refine (IB w c p br d i R x hP h hE.t hE.cyc hi T ht (Do h.wellK.well.ok ht).2 hn (by have:=hx.1;omega) (by have:=hx.2.1;omega) hx.2.2.1 hx.2.2.2.1 hx.2.2.2.2).mono fun e w' q=> ?_
 obtain ⟨y,cd,e1,e2⟩:=q
 refine ⟨y,cd,e1,⟨e2.o.1,NY e2.o.2,?_⟩,⟨T,ht,e2.o.2⟩⟩
 by_cases hc:cd=0
 ·subst hc
  exact .inr ⟨rfl,T,ht,Kn h.wellK e2.o.2⟩
 exact .inl ⟨hc,Lz e2.o.2 hc⟩
theorem oq (kd k:Nat) (x y:Int) (hx: -9223372036854775808<=x/\x<=9223372036854775807) (hy: -9223372036854775808<=y/\y<=9223372036854775807):Oi (cV kd k x y):=by
 have e1:(ltr (k % 4)).size<=60:=qq
 have e2:(ltr (k % 26)).size<=60:=qq
 have e0:(⟨#[]⟩:ByteArray).size<=60:=by show (0:Nat)<=60;omega
 have e3:(⟨#[116]⟩:ByteArray).size<=60:=qq
 have e4:(⟨#[109]⟩:ByteArray).size<=60:=qq
 have e5:(⟨#[118,UInt8.ofNat (48+k % 10)]⟩:ByteArray).size<=60:=by show (2:Nat)<=60;omega
 unfold cV
 split
 ·exact ⟨e1,e0,by show 109<256;omega,⟨by show (_:Int)<=0;omega,by show (0:Int)<=_;omega⟩,hx⟩
 split
 ·exact ⟨e1,e0,by show 109<256;omega,hy,hx⟩
 split
 ·exact ⟨e3,e0,by show 109<256;omega,hy,⟨by show (_:Int)<=1;omega,by show (1:Int)<=_;omega⟩⟩
 split
 ·exact ⟨e0,e2,by show 105<256;omega,hy,⟨by show (_:Int)<=((k % 5:Nat):Int);omega,by show ((k % 5:Nat):Int)<=_;omega⟩⟩
 split
 ·exact ⟨e0,e0,by show 100<256;omega,hy,⟨by show (_:Int)<=((k % 5:Nat):Int);omega,by show ((k % 5:Nat):Int)<=_;omega⟩⟩
 exact ⟨e4,e5,by show 115<256;omega,hy,⟨by show (_:Int)<=0;omega,by show (0:Int)<=_;omega⟩⟩
theorem oB {qs:List Plc} (h:∀p∈qs,FineP p):∀(j:Nat) (x:Int),(aj qs)[j]? =some x-> -9223372036854775808<=x/\x<=9223372036854775807:=by
 intro j x hx
 unfold aj at hx
 rcases jQ.1 (jT hx) with e | e
 ·rw [e];omega
 obtain ⟨p,hpq,rfl⟩:=vp.1 e
 have k1:=(h p hpq).lo
 have k2:=(h p hpq).hi
 omega
def PX (K:Nat->Rws) (st:Nat->DSt) (N:List aO) (kd r k:Nat) (K':Nat->Rws) (st':Nat->DSt) (N':List aO) (cd:Nat):Prop:=
 (kd<=8/\N'=N/\∃qs x y T y0 cd0 yy,dl (aX (K r)) qs/\(aj qs)[k % (aj qs).length]? =some x/\(aj qs)[k / 8 % (aj qs).length]? =some y/\cD (aX (K r)) T/\mg (aX (K r)) T r (K r r).length (cV kd k x y) (y0,cd0)/\DoX K K' st st' r y0 cd0 yy cd)\/
 ((kd=9\/kd=10)/\Nh K st N r ((r+1) % 3) K' st' N' cd)\/(kd=11/\Nh K st N r ((r+2) % 3) K' st' N' cd)\/(kd=12/\Nd K st N (k % 4) K' st' N' cd)\/(kd=13/\k % 2=1/\Ng K st N (k / 2 % 4) K' st' N' cd)\/(kd=13/\k % 2=0/\OS K st N (k / 2 % 4) K' st' N' cd)\/
 (kd=14/\K'=K/\N'=N/\cd=AU (st r).2.1 ((k % 200:Nat):Int)/\st'=aN st r (kt (st r) ((k % 200:Nat):Int)))\/(kd=15/\cd=0/\N'=N/\Gl K K' st st' r)
end
section
open Go.RowKit Go.Lib
open scoped Classical
def bz (K:Nat->Rws) (a m:Nat):List aO:=((List.range m).filter (fun b=>decide (b≠a))).map (fun b=>mp a b (dY (K a)))
def bZ (K:Nat->Rws) (n m:Nat):List aO:=(List.range m).flatMap (fun a=>bz K a n)
theorem rR (K:Nat->Rws) (a:Nat):bz K a (a+1)=bz K a a:=by
 unfold bz
 rw [uH,ug]
 simp
theorem rI (K:Nat->Rws) (h:a≠m):bz K a (m+1)=bz K a m++ [mp a m (dY (K a))]:=by
 unfold bz
 rw [uH,ug,vz]
 have this:decide (m≠a)=true:=decide_eq_true (fun e=>h e.symm)
 have hf: [m].filter (fun b=>decide (b≠a))= [m]:=by rw [List.filter_cons,if_pos this];rfl
 rw [hf]
 rfl
theorem kP (K:Nat->Rws) (n m:Nat):bZ K n (m+1)=bZ K n m++bz K m n:=by
 unfold bZ
 rw [uH,List.flatMap_append]
 simp
theorem mV (K:Nat->Rws) (a m:Nat):(bz K a m).length<=m:=by
 unfold bz
 rw [vy]
 exact jM (uz _ _) zq
theorem gI (K:Nat->Rws) (n:Nat):∀m,(bZ K n m).length<=m*n
 | 0=>by simp [bZ]
 | m+1=>by
  rw [kP,jP]
  have h1:=gI K n m
  have h2:=mV K m n
  rw [uA]
  omega
theorem mem_asks {x:aO} :x∈bZ K n m↔∃a b,a<m/\b<n/\a≠b/\x=mp a b (dY (K a)):=by
 unfold bZ bz
 simp only [List.mem_flatMap,List.mem_range,vp,uN]
 constructor
 ·rintro ⟨a,ha,b,⟨hb,hne⟩,rfl⟩
  exact ⟨a,b,ha,hb,fun e=>(of_decide_eq_true hne) e.symm,rfl⟩
 rintro ⟨a,b,ha,hb,hne,rfl⟩
 exact ⟨a,ha,b,⟨hb,decide_eq_true (fun e=>hne e.symm)⟩,rfl⟩
def left:List aO->Nat
 | []=>0
 | x::t=>(if x.2.2.1=true then 2 else 1)+left t
theorem mL:∀(a b:List aO),left (a++b)=left a+left b
 | [],b=>by simp [left]
 | x::a,b=>by
  show _+left (a++b)=_+left a+left b
  rw [mL a b]
  omega
structure Rnd (n:Nat) (G:List OpX) (K0 K:Nat->Rws) (N:List aO):Prop where
 parts:∃A C,N=A++C/\(A≠ []->K=K0)/\(∀x∈A,∃a b,a<n/\b<n/\a≠b/\x=mp a b (dY (K0 a)))/\∀x∈C,x.2.2.1=false/\x.1<n/\x.2.1<n/\fX (K0 x.1) (dY (K0 x.2.1)) (Cd x)
 short:N.length<=16
 grows:∀r,r<n->∀x∈aX (K0 r),x∈aX (K r)
 told:∀a b,a<n->b<n->a≠b->mp a b (dY (K0 a))∈N\/(∃x∈N,x.2.2.1=false/\x.1=b/\x.2.1=a)\/∀y∈aX (K0 b),y∈aX (K a)
theorem Rnd.start (hn:n<=4):Rnd n G K K (bZ K n n):=by
 refine ⟨⟨bZ K n n,[],zq,fun _=>rfl,fun x hx=>mem_asks.1 hx,fun x hx=>zP⟩,?_,fun r _ x hx=>hx,fun a b ha hb hne=>.inl (mem_asks.2 ⟨a,b,ha,hb,hne,rfl⟩)⟩
 have:=gI K n n
 have:n*n<=4*4:=Nat.mul_le_mul hn hn
 omega
theorem Rnd.next (h:Rnd n G K0 K N) (h0:MeshI n i G K0 D0 st0 N0) (hne:N≠ []) (hd:Dj G K K' st N N' 0 v) (hN':N'.length<=30):Rnd n G K0 K' N'/\left N'<left N:=by
 obtain ⟨A,C,rfl,hA0,hA,hC⟩:=h.parts
 rcases hd with ⟨q,_⟩ | ⟨k,x,hk,hx,hd⟩
 ·exfalso
  apply q
  have:0<(A++C).length:=uF.2 hne
  exact ⟨zj,zj⟩
 obtain rfl:k=0:=zj
 have hl:=h.short
 rcases hd with ⟨hask,_,rfl,F,hF,hN⟩ | ⟨hask,rfl,hH,_⟩
 ·
  cases A with
  | nil=>
   exfalso
   cases C with
   | nil=>simp at hx
   | cons y t=>
    have:y=x:=xZ
    subst this
    have:=(hC y zq).1
    rw [hask] at this
    cases this
  | cons y A'=>
   have hyx:y=x:=xZ
   subst hyx
   obtain ⟨a,b,ha,hb,hab,rfl⟩:=hA _ vr
   have hK:K'=K0:=hA0 zq
   have he:(mp a b (dY (K0 a))::A'++C).eraseIdx 0=A'++C:=rfl
   rw [he] at hN
   have hF':fX (K0 b) (dY (K0 a)) F:=by have q:=hF;rw [hK] at q;exact q
   rcases hN with ⟨hno,rfl⟩ | ⟨_,_,ao,cap,rfl⟩
   ·refine ⟨⟨⟨A',C,rfl,fun _=>hK,fun x hx=>hA x (vf _ hx),hC⟩,jo,h.grows,fun a' b' ha' hb' hne'=> ?_⟩,?_⟩
    ·rcases h.told a' b' ha' hb' hne' with q | q | q
     ·rcases jQ.1 (show mp a' b' (dY (K0 a'))∈mp a b (dY (K0 a))::(A'++C) from q) with e | q
      ·have e1:a'=a:=by have:=congrArg (·.1) e;exact this
       have e2:b'=b:=by have:=congrArg (·.2.1) e;exact this
       subst e1
       subst e2
       right;right
       intro y hy
       rcases hno with hF0 | h30
       ·obtain ⟨ys,y1,y2⟩:=hF'
        have hd:=pP (h0.rows a' ha') (h0.rows b' hb') (h0.inv.compat (fun z hz=>h0.inv.sub a' ha' z hz) (fun z hz=>h0.inv.sub b' hb' z hz)) y1
        rw [<-y2,hF0] at hd
        rw [hK]
        by_cases hm:y∈aX (K0 a')
        ·exact hm
        have:=(hd.2.2 y).2 ⟨hy,hm⟩
        simp at this
       simp at hl h30
       omega
      exact .inl q
     ·obtain ⟨z,hz,z1,z2⟩:=q
      rcases jQ.1 (show z∈mp a b (dY (K0 a))::(A'++C) from hz) with e | hz
      ·rw [e] at z1
       cases z1
      exact .inr (.inl ⟨z,hz,z1,z2⟩)
     exact .inr (.inr q)
    show left (A'++C)<(if (mp a b (dY (K0 a))).2.2.1=true then 2 else 1)+left (A'++C)
    rw [if_pos (show (mp a b (dY (K0 a))).2.2.1=true from rfl)]
    omega
   refine ⟨⟨⟨A',C++ [(b,a,false,fun _=>0,ao,cap,F)],by rw [vn];rfl,fun _=>hK,fun x hx=>hA x (vf _ hx),fun x hx=> ?_⟩,jo,h.grows,fun a' b' ha' hb' hne'=> ?_⟩,?_⟩
   ·rcases jO.1 hx with q | q
    ·exact hC x q
    rw [jS.1 q]
    exact ⟨rfl,hb,ha,hF'⟩
   ·rcases h.told a' b' ha' hb' hne' with q | q | q
    ·rcases jQ.1 (show mp a' b' (dY (K0 a'))∈mp a b (dY (K0 a))::(A'++C) from q) with e | q
     ·have e1:a'=a:=by have:=congrArg (·.1) e;exact this
      have e2:b'=b:=by have:=congrArg (·.2.1) e;exact this
      subst e1
      subst e2
      exact .inr (.inl ⟨_,vB _ (jS.2 rfl),rfl,rfl,rfl⟩)
     exact .inl (vg _ q)
    ·obtain ⟨z,hz,z1,z2⟩:=q
     rcases jQ.1 (show z∈mp a b (dY (K0 a))::(A'++C) from hz) with e | hz
     ·rw [e] at z1
      cases z1
     exact .inr (.inl ⟨z,vg _ hz,z1,z2⟩)
    exact .inr (.inr q)
   rw [mL]
   show left (A'++C)+left [((b,a,false,fun _=>0,ao,cap,F):aO)]<(if (mp a b (dY (K0 a))).2.2.1=true then 2 else 1)+left (A'++C)
   rw [if_pos (show (mp a b (dY (K0 a))).2.2.1=true from rfl)]
   have:left [((b,a,false,fun _=>0,ao,cap,F):aO)]=1:=by simp [left]
   omega
 ·
  cases A with
  | cons y A'=>
   exfalso
   have:y=x:=xZ
   subst this
   obtain ⟨a,b,_,_,_,rfl⟩:=hA _ vr
   cases hask
  | nil=>
   cases C with
   | nil=>exact absurd rfl hne
   | cons y C'=>
    have:y=x:=xZ
    subst this
    obtain ⟨c1,hb,ha,hF⟩:=hC y zq
    have he:(([]:List aO)++y::C').eraseIdx 0=C':=rfl
    rw [he]
    obtain ⟨hr,hg,hsub,hfit⟩:=hH
    have hfits:KF G (aX (K y.2.1)) (Cd y):=by
     obtain ⟨ys,y1,y2⟩:=hF
     have hd:=pP (h0.rows _ ha) (h0.rows _ hb) (h0.inv.compat (fun z hz=>h0.inv.sub _ ha z hz) (fun z hz=>h0.inv.sub _ hb z hz)) y1
     rw [<-y2] at hd
     refine ⟨aX (K0 y.1),(h0.rows _ hb).well,fun z hz=>h0.inv.sub _ hb z hz,fun z hz=>((hd.2.2 z).1 hz).1,fun z hz=> ?_⟩
     by_cases hm:z∈aX (K0 y.2.1)
     ·exact .inl (h.grows _ ha z hm)
     exact .inr ((hd.2.2 z).2 ⟨hz,hm⟩)
    have hnew:=hfit hfits
    have hmono:∀r,∀z∈aX (K r),z∈aX (K' r):=fun r z hz=>by
     by_cases e:r=y.2.1
     ·rw [e] at hz |-;exact hg z hz
     rw [hr r e];exact hz
    refine ⟨⟨⟨[],C',rfl,fun q=>absurd rfl q,fun x hx=>zP,fun x hx=>hC x (vf _ hx)⟩,jo,fun r hr' z hz=>hmono r z (h.grows r hr' z hz),fun a' b' ha' hb' hne'=> ?_⟩,?_⟩
    ·rcases h.told a' b' ha' hb' hne' with q | q | q
     ·rcases jQ.1 (show mp a' b' (dY (K0 a'))∈y::C' from q) with e | q
      ·rw [<-e] at c1
       cases c1
      exact .inl q
     ·obtain ⟨z,hz,z1,z2,z3⟩:=q
      rcases jQ.1 (show z∈y::C' from hz) with e | hz
      ·subst e
       right;right
       intro u hu
       subst z2
       subst z3
       obtain ⟨T,t1,t2,t3,t4⟩:=hfits
       obtain ⟨ys,y1,y2⟩:=hF
       have hd:=pP (h0.rows _ ha) (h0.rows _ hb) (h0.inv.compat (fun z hz=>h0.inv.sub _ ha z hz) (fun z hz=>h0.inv.sub _ hb z hz)) y1
       rw [<-y2] at hd
       by_cases hm:u∈aX (K0 z.2.1)
       ·exact hmono _ u (h.grows _ ha u hm)
       exact hnew u ((hd.2.2 u).2 ⟨hu,hm⟩)
      exact .inr (.inl ⟨z,hz,z1,z2,z3⟩)
     exact .inr (.inr (fun u hu=>hmono _ u (q u hu)))
    show left C'<(if y.2.2.1=true then 2 else 1)+left C'
    rw [c1]
    simp
theorem Rnd.done (h:Rnd n G K0 K []) (h0:MeshI n i G K0 D0 st0 N0):∀r,r<n->∀x∈G,x∈aX (K r):=fun r hr x hx=>by
 obtain ⟨b,hb,_,hD⟩:=h0.inv.own x hx
 have hS:=h0.inv.disk b hb x hD
 by_cases e:r=b
 ·subst e;exact h.grows r hr x hS
 rcases h.told r b hr hb e with q | ⟨z,hz,_⟩ | q
 ·simp at q
 ·simp at hz
 exact q x hS
end
section
open Go.RowKit Go.Lib Go.Sort Go.Maps
open scoped Classical
theorem MeshAt.wardOld {c:Nat->Nat->Nat} (h:MeshAt gd B w ow n bm pv fv bp br d dv c K st N) (P:Nat->Prop) (hP:∀k,P k->ow k=0/\B<=k/\k<w.heap.size):
  MeshAt (fun k=>if P k then w.heap[k]? else gd k) B w (fun k=>if P k then 5 else ow k) n bm pv fv bp br d dv c K st N:=by
 have hue:∀ {k i:Nat},ow k=i->i≠0->(if P k then 5 else ow k)=i:=fun {k i} e hi=>by
  rw [if_neg (fun q=>by have:=(hP k q).1;omega)];exact e
 refine ⟨h.few,h.mesh,hue h.om zj,h.peers,fun g hg=>hue (h.op g hg) zj,h.fly,fun g hg=>hue (h.of g hg) zj,fun x hx=>⟨(h.notes x hx).from_,(h.notes x hx).to_,(h.notes x hx).ops,fun g hg=>hue ((h.notes x hx).own g hg) zj⟩,fun r hr=>⟨(h.peer r hr).1,hue (h.peer r hr).2 zj⟩,fun r hr=>⟨(h.rep r hr).1,fun k e=>hue ((h.rep r hr).2 k e) zj⟩,fun r hr=>⟨(h.disk r hr).1,fun k e=>hue ((h.disk r hr).2 k e) zj⟩,fun k e=> ?_,fun k e=> ?_,h.base,fun k o e=> ?_⟩
 ·by_cases q:P k
  ·exact (hP k q).2.1
  rw [if_neg q] at e;exact h.low k e
 ·rw [if_neg (fun q=>by have:=(hP k q).2.2;omega)]
  exact h.high k e
 by_cases q:P k
 ·rw [if_pos q] at e |-
  exact ⟨rfl,e⟩
 rw [if_neg q] at e |-
 exact h.guard k o e
theorem MeshS.less (h:MeshS gd B n bm K st N w) (hg:∀k o,gd' k=some o->gd k=some o):MeshS gd' B n bm K st N w:=by
 obtain ⟨ow,pv,fv,bp,br,d,dv,c,hm⟩:=h
 exact ⟨ow,pv,fv,bp,br,d,dv,c,hm.few,hm.mesh,hm.om,hm.peers,hm.op,hm.fly,hm.of,hm.notes,hm.peer,hm.rep,hm.disk,hm.low,hm.high,hm.base,fun k o e=>hm.guard k o (hg k o e)⟩
def gdQ (gd:Nat->Option Obj) (v:Value) (w:World):Nat->Option Obj:=fun k=>if v.ownBlock=some k then w.heap[k]? else gd k
def MeshQ (gd:Nat->Option Obj) (B n bm:Nat) (K:Nat->Rws) (st:Nat->DSt) (N:List aO) (v:Value) (cs:List Int) (w:World):Prop:=
 MeshS (gdQ gd v w) B n bm K st N w/\w.ownsRow B 3 1 v cs.length (aB eL cs)/\∀k,v.ownBlock=some k->gd k=none
theorem MeshQ.bare (h:MeshS gd B n bm K st N w):MeshQ gd B n bm K st N (.slice none 0 0) [] w:=
 ⟨h.less (fun k o e=>by unfold gdQ at e;rwa [if_neg (fun q=>by cases q)] at e),vD _ _ _ _,fun k q=>by cases q⟩
theorem MeshQ.mesh (h:MeshQ gd B n bm K st N v cs w):MeshS gd B n bm K st N w:=
 h.1.less (fun k o e=>by
  unfold gdQ
  rw [if_neg (fun q=>by rw [h.2.2 k q] at e;cases e)]
  exact e)
theorem MeshQ.on (h:MeshQ gd B n bm K st N v cs w) (h':MeshS (gdQ gd v w) B n bm K' st' N' w'):MeshQ gd B n bm K' st' N' v cs w':=by
 have e:∀g,v.ownBlock=some g->w'.heap[g]? =w.heap[g]? :=fun g hg=>by
  obtain ⟨o,ho⟩:=iC h.2.1 hg
  rw [ho]
  exact h'.held (by unfold gdQ;rw [if_pos hg];exact ho)
 refine ⟨h'.less (fun k o q=> ?_),au h.2.1 e,h.2.2⟩
 unfold gdQ at q |-
 by_cases hk:v.ownBlock=some k
 ·rw [if_pos hk] at q |-;rw [<-e k hk];exact q
 rw [if_neg hk] at q |-;exact q
theorem MeshQ.more {v':Value} {cs':List Int} (h:MeshQ gd B n bm K st N v cs w) (hk:Keeps (fun k=>some k=v.ownBlock) w w') (ho:w'.ownsRow B 3 1 v' cs'.length (aB eL cs')) (hv:∀g,v'.ownBlock=some g->v.ownBlock=some g\/w.heap.size<=g):MeshQ gd B n bm K st N v' cs' w':=by
 obtain ⟨⟨ow,pv,fv,bp,br,d,dv,c,hm⟩,h3,h1⟩:=h
 have h5:∀g,v.ownBlock=some g->ow g=5:=fun g hg=>by
  obtain ⟨o,ho⟩:=iC h3 hg
  exact (hm.guard g o (by unfold gdQ;rw [if_pos hg];exact ho)).1
 have hgn:∀k,v'.ownBlock=some k->gd k=none:=fun k hk'=>by
  rcases hv k hk' with q | q
  ·exact h1 k q
  cases e:gd k with
  | none=>rfl
  | some o=>
   have:=(hm.guard k o (by unfold gdQ;rw [if_neg (fun q'=>by rw [h1 k q'] at e;cases e)];exact e)).1
   have:=hm.high k q
   omega
 refine ⟨⟨fun k=>if v'.ownBlock=some k then 5 else ow k,pv,fv,bp,br,d,dv,c,hm.redo (hk.mono (fun k _ q=>h5 k (Eq.symm q))) (fun k e=> ?_) (fun k e=> ?_) (fun k o e=> ?_)⟩,ho,hgn⟩
 ·try dsimp only
  by_cases q:v'.ownBlock=some k
  ·rw [if_pos q]
   rcases hv k q with q' | q'
   ·exact (h5 k q').symm
   exact absurd (hm.high k q') e
  rw [if_neg q]
 ·try dsimp only at e
  by_cases q:v'.ownBlock=some k
  ·rcases hv k q with q' | q'
   ·left;rw [h5 k q'];omega
   right
   obtain ⟨o,ho'⟩:=iC ho q
   exact ⟨q',(jJ.1 ho').1⟩
  rw [if_neg q] at e
  exact .inl e
 unfold gdQ at e
 try dsimp only at e |-
 by_cases q:v'.ownBlock=some k
 ·rw [if_pos q] at e |-
  exact ⟨rfl,e⟩
 rw [if_neg q] at e |-
 have hnv:v.ownBlock≠some k\/v.ownBlock=some k:=by by_cases q':v.ownBlock=some k<;>simp [q']
 rcases hnv with q' | q'
 ·obtain ⟨e1,e2⟩:=hm.guard k o (by unfold gdQ;rw [if_neg q'];exact e)
  exact ⟨e1,(hk.block k (hm.in_ (by rw [e1];omega)) (fun q2=>q' (Eq.symm q2))).trans e2⟩
 rw [h1 k q'] at e;cases e
end
section
open Go.RowKit Go.Lib Go.Sort Go.Maps
open scoped Classical
theorem MeshAt.loose {c:Nat->Nat->Nat} (h:MeshAt gd B w ow n bm pv fv bp br d dv c K st N):
  MeshAt (fun _=>none) B w (fun k=>if ow k=5 then 0 else ow k) n bm pv fv bp br d dv c K st N:=by
 have hf:=h.few
 have hue:∀ {k i:Nat},ow k=i->i≠5->(if ow k=5 then 0 else ow k)=i:=fun {k i} e hi=>by
  rw [if_neg (fun q=>hi (by rw [<-e];exact q))];exact e
 refine ⟨h.few,h.mesh,hue h.om zj,h.peers,fun g hg=>hue (h.op g hg) zj,h.fly,fun g hg=>hue (h.of g hg) zj,fun x hx=>⟨(h.notes x hx).from_,(h.notes x hx).to_,(h.notes x hx).ops,fun g hg=>hue ((h.notes x hx).own g hg) zj⟩,fun r hr=>⟨(h.peer r hr).1,hue (h.peer r hr).2 zj⟩,fun r hr=>⟨(h.rep r hr).1,fun k e=>hue ((h.rep r hr).2 k e) zj⟩,fun r hr=>⟨(h.disk r hr).1,fun k e=>hue ((h.disk r hr).2 k e) zj⟩,fun k e=> ?_,fun k e=> ?_,h.base,fun k o e=>qu⟩
 ·by_cases q:ow k=5
  ·rw [if_pos q] at e;exact absurd rfl e
  rw [if_neg q] at e;exact h.low k e
 try dsimp only
 rw [h.high k e]
 rfl
def TwoAt (X:Nat->Prop) (Ba Bb ba bb:Nat) (Ka:Nat->Rws) (sa:Nat->DSt) (Na:List aO) (Kb:Nat->Rws) (sb:Nat->DSt) (Nb:List aO) (w:World):Prop:=
 ∃owa pva fva bpa bra da dva ca owb pvb fvb bpb brb db dvb cb,MeshAt (fun _=>none) Ba w owa 3 ba pva fva bpa bra da dva ca Ka sa Na/\MeshAt (fun _=>none) Bb w owb 3 bb pvb fvb bpb brb db dvb cb Kb sb Nb/\(∀k,owa k=0\/owb k=0)/\∀k,X k->Ba<=k/\k<w.heap.size/\owa k=0/\owb k=0
section
variable {X:Nat→Prop} {Ba Bb ba bb:Nat} {Ka Kb:Nat→Rws} {sa sb:Nat→DSt} {Na Nb:List aO} {w:World}
theorem EM {w1 w2:World} (h1:MeshS (fun _=>none) Ba 3 ba Ka sa Na w1) (hb:Below w1.heap.size w1 w2) (h2:MeshS (fun _=>none) w1.heap.size 3 bb Kb sb Nb w2):TwoAt (fun _=>False) Ba w1.heap.size ba bb Ka sa Na Kb sb Nb w2:=by
 obtain ⟨owa,pva,fva,bpa,bra,da,dva,ca,ha⟩:=h1
 obtain ⟨owb,pvb,fvb,bpb,brb,db,dvb,cb,hb2⟩:=h2
 refine ⟨owa,pva,fva,bpa,bra,da,dva,ca,owb,pvb,fvb,bpb,brb,db,dvb,cb,ha.later hb,hb2,fun k=> ?_,fun k q=>q.elim⟩
 by_cases q:owb k=0
 ·exact .inr q
 exact .inl (ha.high k (hb2.low k q))
theorem TwoAt.later (h:TwoAt X Ba Bb ba bb Ka sa Na Kb sb Nb w) {w':World} (hb:Below w.heap.size w w'):TwoAt X Ba Bb ba bb Ka sa Na Kb sb Nb w':=by
 obtain ⟨owa,pva,fva,bpa,bra,da,dva,ca,owb,pvb,fvb,bpb,brb,db,dvb,cb,ha,hb2,hne,hX⟩:=h
 exact ⟨owa,pva,fva,bpa,bra,da,dva,ca,owb,pvb,fvb,bpb,brb,db,dvb,cb,ha.later hb,hb2.later hb,hne,fun k q=>⟨(hX k q).1,jW (hX k q).2.1 hb.size,(hX k q).2.2⟩⟩
theorem TwoAt.more (h:TwoAt X Ba Bb ba bb Ka sa Na Kb sb Nb w) (hb:Below w.heap.size w w'):TwoAt (fun k=>X k\/(w.heap.size<=k/\k<w'.heap.size)) Ba Bb ba bb Ka sa Na Kb sb Nb w':=by
 obtain ⟨owa,pva,fva,bpa,bra,da,dva,ca,owb,pvb,fvb,bpb,brb,db,dvb,cb,ha,hb2,hne,hX⟩:=h
 refine ⟨owa,pva,fva,bpa,bra,da,dva,ca,owb,pvb,fvb,bpb,brb,db,dvb,cb,ha.later hb,hb2.later hb,hne,fun k q=> ?_⟩
 rcases q with q | ⟨q1,q2⟩
 ·exact ⟨(hX k q).1,jW (hX k q).2.1 hb.size,(hX k q).2.2⟩
 exact ⟨jM ha.base q1,q2,ha.high k q1,hb2.high k q1⟩
theorem TwoAt.less (h:TwoAt X Ba Bb ba bb Ka sa Na Kb sb Nb w) {X':Nat->Prop} (hX:∀k,X' k->X k):TwoAt X' Ba Bb ba bb Ka sa Na Kb sb Nb w:=by
 obtain ⟨owa,pva,fva,bpa,bra,da,dva,ca,owb,pvb,fvb,bpb,brb,db,dvb,cb,ha,hb2,hne,hX'⟩:=h
 exact ⟨owa,pva,fva,bpa,bra,da,dva,ca,owb,pvb,fvb,bpb,brb,db,dvb,cb,ha,hb2,hne,fun k q=>hX' k (hX k q)⟩
theorem TwoAt.left (h:TwoAt X Ba Bb ba bb Ka sa Na Kb sb Nb w) (hB:Ba<=Bb):∃gd,MeshS gd Ba 3 ba Ka sa Na w/\(∀k,X k->gd k=w.heap[k]?)/\
  ∀(w':World) (gd':Nat->Option Obj) (Ka':Nat->Rws) (sa':Nat->DSt) (Na':List aO) (X':Nat->Prop),Below Ba w w'->(∀k o,gd k=some o->gd' k=some o)->MeshS gd' Ba 3 ba Ka' sa' Na' w'->(∀k,X' k->(∃o,gd' k=some o)/\(X k\/gd k=none))->TwoAt X' Ba Bb ba bb Ka' sa' Na' Kb sb Nb w':=by
 obtain ⟨owa,pva,fva,bpa,bra,da,dva,ca,owb,pvb,fvb,bpb,brb,db,dvb,cb,ha,hb2,hne,hX⟩:=h
 have hP:∀k,(owb k≠0\/X k)->owa k=0/\Ba<=k/\k<w.heap.size:=fun k q=>by
  rcases q with q | q
  ·exact ⟨(hne k).resolve_right q,jM hB (hb2.low k q),hb2.in_ q⟩
  exact ⟨(hX k q).2.2.1,(hX k q).1,(hX k q).2.1⟩
 refine ⟨_,⟨_,_,_,_,_,_,_,_,ha.wardOld (fun k=>owb k≠0\/X k) hP⟩,fun k q=>if_pos (.inr q),fun w' gd' Ka' sa' Na' X' hbw hg hm hX'=> ?_⟩
 obtain ⟨ow',pv',fv',bp',br',d',dv',c',hm'⟩:=hm
 have gdO:∀k,owb k≠0->∃o,w.heap[k]? =some o/\gd' k=some o:=fun k q=>by
  have hl:=hb2.in_ q
  refine ⟨w.heap[k],vG hl,hg k _ ?_⟩
  rw [if_pos (.inl q)]
  exact vG hl
 have hkp:Keeps (fun k=>owb k=0) w w':=⟨hbw.os,hbw.tape,hbw.output,hbw.size,fun k _ q=>by
  obtain ⟨o,e1,e2⟩:=gdO k q
  rw [e1]
  exact (hm'.guard k o e2).2⟩
 refine ⟨_,_,_,_,_,_,_,_,owb,pvb,fvb,bpb,brb,db,dvb,cb,hm'.loose,hb2.still hkp (fun k q=>q),fun k=> ?_,fun k q=> ?_⟩
 ·by_cases e:owb k=0
  ·exact .inr e
  obtain ⟨o,_,e2⟩:=gdO k e
  exact .inl (if_pos (hm'.guard k o e2).1)
 obtain ⟨⟨o,e1⟩,e2⟩:=hX' k q
 have h5:=(hm'.guard k o e1).1
 refine ⟨hm'.low k (by rw [h5];omega),hm'.in_ (by rw [h5];omega),if_pos h5,?_⟩
 rcases e2 with e2 | e2
 ·exact (hX k e2).2.2.2
 by_cases e:owb k=0
 ·exact e
 rw [if_pos (.inl e)] at e2
 have:=hb2.in_ e
 rw [vG this] at e2
 cases e2
theorem TwoAt.right (h:TwoAt X Ba Bb ba bb Ka sa Na Kb sb Nb w):∃gd,MeshS gd Bb 3 bb Kb sb Nb w/\(∀k,X k->Bb<=k->gd k=w.heap[k]?)/\
  ∀(w':World) (gd':Nat->Option Obj) (Kb':Nat->Rws) (sb':Nat->DSt) (Nb':List aO) (X':Nat->Prop),Below Bb w w'->(∀k o,gd k=some o->gd' k=some o)->MeshS gd' Bb 3 bb Kb' sb' Nb' w'->(∀k,X' k->Ba<=k/\k<w'.heap.size/\(X k\/(∃o,gd' k=some o)/\gd k=none/\Bb<=k))->TwoAt X' Ba Bb ba bb Ka sa Na Kb' sb' Nb' w':=by
 obtain ⟨owa,pva,fva,bpa,bra,da,dva,ca,owb,pvb,fvb,bpb,brb,db,dvb,cb,ha,hb2,hne,hX⟩:=h
 have hP:∀k,((owa k≠0\/X k)/\Bb<=k)->owb k=0/\Bb<=k/\k<w.heap.size:=fun k q=>by
  rcases q with ⟨q | q,q2⟩
  ·exact ⟨(hne k).resolve_left q,q2,ha.in_ q⟩
  exact ⟨(hX k q).2.2.2,q2,(hX k q).2.1⟩
 refine ⟨_,⟨_,_,_,_,_,_,_,_,hb2.wardOld (fun k=>(owa k≠0\/X k)/\Bb<=k) hP⟩,fun k q q2=>if_pos ⟨.inr q,q2⟩,fun w' gd' Kb' sb' Nb' X' hbw hg hm hX'=> ?_⟩
 obtain ⟨ow',pv',fv',bp',br',d',dv',c',hm'⟩:=hm
 have gdO:∀k,(owa k≠0\/X k)->Bb<=k->∃o,w.heap[k]? =some o/\gd' k=some o:=fun k q q2=>by
  have hl:=(hP k ⟨q,q2⟩).2.2
  refine ⟨w.heap[k],vG hl,hg k _ ?_⟩
  rw [if_pos ⟨q,q2⟩]
  exact vG hl
 have hkp:Keeps (fun k=>owa k=0) w w':=⟨hbw.os,hbw.tape,hbw.output,hbw.size,fun k _ q=>by
  by_cases q2:Bb<=k
  ·obtain ⟨o,e1,e2⟩:=gdO k (.inl q) q2
   rw [e1]
   exact (hm'.guard k o e2).2
  ·exact hbw.block k zj⟩
 refine ⟨owa,pva,fva,bpa,bra,da,dva,ca,_,_,_,_,_,_,_,_,ha.still hkp (fun k q=>q),hm'.loose,fun k=> ?_,fun k q=> ?_⟩
 ·by_cases e:owa k=0
  ·exact .inl e
  by_cases q2:Bb<=k
  ·obtain ⟨o,_,e2⟩:=gdO k (.inl e) q2
   exact .inr (if_pos (hm'.guard k o e2).1)
  refine .inr ?_
  have:ow' k=0:=by
   by_cases q:ow' k=0
   ·exact q
   exact absurd (hm'.low k q) q2
  try dsimp only
  rw [this]
  rfl
 obtain ⟨q1,q2,q3⟩:=hX' k q
 refine ⟨q1,q2,?_,?_⟩
 ·rcases q3 with e | ⟨_,e,eB⟩
  ·exact (hX k e).2.2.1
  by_cases e':owa k=0
  ·exact e'
  rw [if_pos ⟨.inl e',eB⟩] at e
  rw [vG (ha.in_ e')] at e
  cases e
 by_cases q4:Bb<=k
 ·have h5:ow' k=5:=by
   rcases q3 with e | ⟨⟨o,e⟩,_⟩
   ·obtain ⟨o,_,e2⟩:=gdO k (.inr e) q4
    exact (hm'.guard k o e2).1
   exact (hm'.guard k o e).1
  exact if_pos h5
 have:ow' k=0:=by
  by_cases q:ow' k=0
  ·exact q
  exact absurd (hm'.low k q) q4
 try dsimp only
 rw [this]
 rfl
theorem BQ {k:Nat} {o:Obj} {Kb':Nat->Rws} {sb':Nat->DSt} {Nb':List aO} (hbw:Below Bb w w') (hm:MeshS gd' Bb 3 bb Kb' sb' Nb' w') (ho:w.heap[k]? =some o) (hg:Bb<=k->gd' k=some o):w'.heap[k]? =some o:=by
 by_cases q:Bb<=k
 ·exact hm.held (hg q)
 rw [hbw.block k zj];exact ho
