import Derived.Test.YtjclejjkganhfaaGreatDoorSR34
set_option linter.unusedSimpArgs false
set_option linter.unusedVariables false
set_option maxRecDepth 100000
set_option maxHeartbeats 64000000
namespace Go.Proofs.YtjclejjkganhfaaGreatDoor
open Go.Proofs.Tryz
section
open RowKit Lib Go.Sort Maps
open scoped Classical
def Rt(G:qX)(K K':qH)(st:qD)(N N':qJ)(p9:Int)(v:Value):Prop:=(¬(0<=p9/\p9<(N.length:Int))/\N'=N/\K'=K)\/∃(k:Nat) (x:nO),p9=(k:Int)/\N[k]? =some x/\((x.2.2.1=true/\v= .nilIface/\K'=K/\∃F,sg (K x.2.1) x.2.2.2.1 F/\(((F= []\/30<=(N.eraseIdx k).length)/\N'=N.eraseIdx k)\/(F≠ []/\(N.eraseIdx k).length<30/\∃ao cap,N'=N.eraseIdx k++ [(x.2.1,x.1,false,fun _=>0,ao,cap,F)])))\/(x.2.2.1=false/\N'=N.eraseIdx k/\Vb G K K' x.2.1 (Hf x)/\(Xg G (lX (K x.2.1)) (Hf x)->(st x.2.1).2.1=false->(st x.2.1).2.2.1=false->v= .nilIface)))
def zdg(ad:qF)(K K':qH)(st st':qD)(N:qJ)(p9:Int)(v:Value):Prop:=(¬(0<=p9/\p9<(N.length:Int))->v=eV ad 6/\st'=st)/\∀(k:Nat) (x:nO),p9=(k:Int)->N[k]? =some x->x.2.2.1=false->Ru ad K K' st st' x.2.1 (Hf x) v
def MA(gd:Nat->Option Obj)(B n bm i:Nat)(ad:qF)(G:qX)(K:qH)(st:qD)(N:qJ)(p9:Int)(w:qW)(e:Ending)(w':qW):Prop:=∃(v:Value) (K':qH) (D':Nat->List OpX) (st':qD) (N':qJ),e= .returned v/\Aside (q8 gd B n bm K' st' N' w'/\Below B w w'/\r9 n i G K' D' st' N'/\N'.length<=30/\Rt G K K' st N N' p9 v/\((∃(k:Nat) (x:nO),p9=(k:Int)/\N[k]? =some x/\x.2.2.1=true)->st'=st))/\Aside (zdg ad K K' st st' N p9 v)
theorem MM{R}{u}{F}(h:sg R u F)(hR:u9 R):F.Nodup/\∀x∈F,x∈lX R:=by
 obtain ⟨ys,h1,rfl⟩:=h;obtain ⟨hp,_⟩:=rY h1;exact ⟨((hp.nodup_iff).2 hR.num.J2).sublist List.filter_sublist,fun x hx=>hp.mem_iff.1 (Ye.1 hx).1⟩
theorem Cy{gd}{B}{ad}{n bm}{K}{st}{N}{i}{G}{D}(w)(p9)(h:q8 gd B n bm K st N w)(hI:r9 n i G K D st N)(hN:N.length<=30)(hE:E6 B ad w)(hi:i<=155)(ho:(-9223372036854775808<=p9/\p9<=9223372036854775807)):
  qC 41 #[qP bm,qI p9] w (MA gd B n bm i ad G K st N p9 w):=by
 obtain ⟨ow,pv,fv,bp,br,d,dv,c,hm⟩:=h;have ht:=Jm w p9 hm hE hN ho
 have HM:Aside (n9 gd B w ow n bm pv fv bp br d dv c K st N/\E6 B ad w/\r9 n i G K D st N):=⟨hm,hE,hI⟩
 go_enter func41,ntmps41;go_wp2_with fail;refine ht.mono ?_;rintro e w1 (⟨q,rfl,HB⟩ | ⟨k,⟨x1,x2,x3,x4,x5,x6,x7⟩,rfl,hk,rfl,HT⟩)
 ·have HQ:Aside (¬(0<=p9/\p9<(N.length:Int))):=q;rw [mO (show (6:Nat)≠0 by omega)];go_wp2;go_ret;have hb:qL w (w1.alloc (.cells #[qI 0,qI 0,.bool false,qI 0,qI 0,qI 0,qI 0,qE] 149)):=HB.o.alloc HB.o.size _;exact ⟨_,K,D,st,N,rfl,⟨⟨_,_,_,_,_,_,_,_,HM.o.1.later hb⟩,hb.mono HM.o.1.l9,HM.o.2.2,hN,.inl ⟨HQ.o,rfl,rfl⟩,fun _=>rfl⟩,fun _=>⟨(mO (show (6:Nat)≠0 by omega)).symm,rfl⟩,fun k' x' e1 e2 _=>absurd ⟨zj,by have:=(uI.1 e2).1;omega⟩ HQ.o⟩
 obtain ⟨x,b9⟩:∃x:nO,Aside (x=(x1,x2,x3,x4,x5,x6,x7)):=⟨_,rfl⟩
 obtain ⟨hxk,ow1,fv1,hm1,hn1,hb1⟩:=HT.o;have hxI:=HM.o.2.2.D9 _ (uP hxk);obtain ⟨P,hP⟩:=ze w1.heap.size;obtain ⟨V,hV⟩:=ze (w1.alloc (.cells #[qN x1,qN x2,.bool x3,qI (x4 0),qI (x4 1),qI (x4 2),qI (x4 3),.slice x5 x7.length x6] 149))
 have ai:qL w1 V:=by rw [hV.o];exact zh w1 _
 have hmV:=hm1.later ai
 have XV:F8 V P x:=by rw [hV.o,hP.o,b9.o];exact F8.F5 w1 (x1,x2,x3,x4,x5,x6,x7)
 have jx:x2<n:=hn1.to_;have hfr:x1<n:=hn1.R5;have hel:(N.eraseIdx k).length<=30:=ur;have hIe:r9 n i G K D st (N.eraseIdx k):=HM.o.2.2.L5 (fun y hy=>.inl (ZQ hy));obtain ⟨po,pc,eF⟩:=mC hmV.K8
 have hcell:∃g,po=some (qB g)/\V.cell? (qA g x2)=some (qP (bp x2)):=by
  have hp:=hmV.K8
  rcases hp.2 with ⟨_,q⟩ | ⟨g,cap,cur,q,_⟩
  ·omega
  rw [eF] at q
  cases q
  refine ⟨g,rfl,?_⟩;rw [eF] at hp;rw [hp.cellAt x2 zj,Bj bp jx]
 obtain ⟨pg,rfl,hpc⟩:=hcell;subst eF;have hmD:=hmV.later (uM _ V).drew
 have HV:Aside (n9 gd B V.drew ow1 n bm (qG pg n pc) fv1 bp br d dv c K st (N.eraseIdx k)/\F8 V.drew P x/\Below B w V.drew/\P5 V.drew ow1 n x/\((∀y∈x7,y∈G)/\x7.length<=i)/\r9 n i G K D st (N.eraseIdx k)/\x1<n/\N[k]? =some (x1,x2,x3,x4,x5,x6,x7)/\E6 B ad V.drew):=⟨hmD,XV,(hb1.trans (ai.mono hm1.l9)).drew,by rw [b9.o];exact (hn1.later ai).later (uM _ V).drew,hxI,hIe,hfr,hxk,HM.o.2.1.mono ((hb1.trans (ai.mono hm1.l9)).drew)⟩
 have SD:G0 V.drew bm (qG pg n pc) fv1/\V.drew.cell? (qA pg x2)=some (qP (bp x2))/\F8 V.drew P x:=⟨hmD.C9,hpc,XV⟩
 have wk:((x2:Int)).toNat=x2:=zj;have pk:(0:Int)<=(x2:Int):=zj;have bk:(x2:Int)<(n:Int):=zj;unfold VD AZ;dsimp only;go_upto_region 4 with fail;rw [<-hV.o,<-hP.o];refine lV (S:=(fun w'=>G0 w' bm (qG pg n pc) fv1/\w'.cell? (qA pg x2)=some (qP (bp x2))/\F8 w' P x)) zk SD (fun aa=> ?_);refine tk 0 aa ?_ (y:=ty zl);refine tk 1 aa ?_ (y:=ty zl);refine tk 2 aa ?_ (y:=ty zl);refine tk 3 aa ?_ (y:=ty zH);refine tk 4 aa ?_ (y:=ty zl);refine tk 5 aa ?_ (y:=ty (by intro w' ab;have q9:=ab.2.2;rw [b9.o] at q9;obtain ⟨q0,q1,q2,q3,q4,q5,q6,q7,-⟩:=F8.cells q9;unfold AZ at q7;dsimp only at q0 q1 q2 q3 q4 q5 q6 q7;clear q9;clear ab;go_simp;try with_reducible rfl));refine tk 6 aa ?_ (y:=ty zl);refine tk 7 aa ?_ (y:=ty (by intro w' ab;have q1:=ab.2.1;clear ab;go_simp;try with_reducible rfl));refine an (i:=8) zk rfl (fun kQ hK=> ?_);go_simp;refine hK _ _ SD ?_;refine wpAnyH_done zk ?_ _;refine qn ?_;obtain ⟨Y,hY⟩:=ze V.drew;rw [<-hY.o] at HV;rw [<-hY.o];have XY:=HV.o.2.1;rw [b9.o] at XY;obtain ⟨q0,q1,q2,q3,q4,q5,q6,q7,-⟩:=XY.cells;unfold AZ at q7;dsimp only at q0 q1 q2 q3 q4 q5 q6 q7
 cases x3 with
 | false=>
  have dY:F1 Y x5 x7:=by
   have:=HV.o.2.2.2.1.ops;rw [b9.o] at this;exact Va this
  have gz:=Mm Y x2 x5 x6 x7 HV.o.1 HV.o.2.2.2.2.2.1 HV.o.2.2.2.2.2.2.2.2 jx hi dY HV.o.2.2.2.2.1.1 (by have:=HV.o.2.2.2.2.1.2;omega);go_wp2_with fail;refine gz.mono ?_;rintro e w5 ⟨v5,K',D',st',rfl,H5⟩;go_wp2;go_ret
  exact ⟨_,K',D',st',N.eraseIdx k,rfl,⟨H5.o.1,HV.o.2.2.1.trans H5.o.2.1,H5.o.2.2.1,hel,.inr ⟨k,_,rfl,HV.o.2.2.2.2.2.2.2.1,.inr ⟨rfl,rfl,H5.o.2.2.2.1,H5.o.2.2.2.2.1⟩⟩,fun ⟨k',x',e1,e2,e3⟩=>by
   obtain rfl:k=k':=zj
   rw [HV.o.2.2.2.2.2.2.2.1] at e2
   cases e2
   cases e3⟩,fun q=>absurd ⟨zj,zj⟩ q,fun k' x' e1 e2 _=>by
   obtain rfl:k=k':=zj
   rw [HV.o.2.2.2.2.2.2.2.1] at e2
   cases e2
   exact H5.o.2.2.2.2.2⟩
 | true=>
  have hmY:=HV.o.1.later (uM _ Y).drew;have hdf:=GD Y.drew (c x2) (br x2) (x2:Int) (K x2) x4 (hmY.GP x2 jx).1.GP (by have:=HV.o.2.2.2.2.2.1.D4 jx;omega)
  have SD:t8 Y.drew (bp x2) (br x2) (d x2)/\F8 Y.drew P x:=⟨(hmY.GA x2 jx).1,HV.o.2.1⟩
  have HY:Aside (n9 gd B Y.drew ow1 n bm (qG pg n pc) fv1 bp br d dv c K st (N.eraseIdx k)):=hmY;go_upto_region 7 with fail;refine lV (S:=(fun w'=>t8 w' (bp x2) (br x2) (d x2)/\F8 w' P x)) zk SD (fun aa=> ?_);refine tk 0 aa ?_ (y:=ty zl);refine tk 1 aa ?_ (y:=ty zl);refine tk 2 aa ?_ (y:=ty zl);refine tk 3 aa ?_ (y:=ty zH);refine tk 4 aa ?_ (y:=ty zl);refine tk 5 aa ?_ (y:=ty (by intro w' ab;have q9:=ab.2;rw [b9.o] at q9;obtain ⟨q0,q1,q2,q3,q4,q5,q6,q7,-⟩:=F8.cells q9;unfold AZ at q7;dsimp only at q0 q1 q2 q3 q4 q5 q6 q7;clear q9;clear ab;go_simp;try with_reducible rfl));refine an (i:=6) zk rfl (fun kQ hK=> ?_);go_simp;refine hdf.mono ?_;rintro e w3 ⟨ao,cap,F,rfl,H3⟩
  have S3:t8 w3 (bp x2) (br x2) (d x2)/\F8 w3 P x:=⟨SD.1.same (H3.o.2.2.2.block _ SD.1.lt),SD.2.later H3.o.2.2.2⟩
  refine hK _ _ S3 ?_;refine qn ?_;refine an (i:=7) zk rfl (fun kQ hK=> ?_);go_simp;refine hK _ _ S3 ?_;refine wpAnyH_done zk ?_ _;refine qn ?_;have hFl:=MM H3.o.1 (HV.o.2.2.2.2.2.1.GC x2 jx);have hFi:=uO (oP hFl.1 (fun y hy=>HV.o.2.2.2.2.2.1.G5.sub x2 jx y (hFl.2 y hy))) HV.o.2.2.2.2.2.1.G5.D4;have hb3:=HV.o.2.2.1.trans (((uM _ Y).drew.mono HV.o.1.l9).trans (H3.o.2.2.2.mono HY.o.l9));have X3:=S3.2;rw [b9.o] at X3;obtain ⟨q0,q1,-,q3,q4,q5,q6,q7,-⟩:=X3.cells;dsimp only at q0 q1;by_cases hF:F= []
  ·have hF0:F.length=0:=by rw [hF];rfl
   have d0:qlt 0 F.length=false:=by rw [hF0];rfl
   have d0n:decide (0<F.length)=false:=by rw [hF0];rfl
   have HF:Aside (sg (K x2) x4 F/\F= []):=⟨H3.o.1,hF⟩
   have cC:=HY.o.later H3.o.2.2.2
   have HM3:Aside (q8 gd B n bm K st (N.eraseIdx k) w3/\Below B w w3):=⟨⟨_,_,_,_,_,_,_,_,cC⟩,hb3⟩
   go_wp2;go_ret
   exact ⟨_,K,D,st,N.eraseIdx k,rfl,⟨HM3.o.1,HM3.o.2,HV.o.2.2.2.2.2.1,hel,.inr ⟨k,_,rfl,HV.o.2.2.2.2.2.2.2.1,.inl ⟨rfl,rfl,rfl,F,HF.o.1,.inl ⟨.inl HF.o.2,rfl⟩⟩⟩,fun _=>rfl⟩,fun q=>absurd ⟨zj,zj⟩ q,fun k' x' e1 e2 e3=>by
    obtain rfl:k=k':=zj
    rw [HV.o.2.2.2.2.2.2.2.1] at e2
    cases e2
    cases e3⟩
  have hFp:=YG.2 hF;have d0:qlt 0 F.length=true:=zm;have d0n:decide (0<F.length)=true:=zm;obtain ⟨cC,aW⟩:=HY.o.adi H3.o.2.2.2;have fU:=ES w3 (x2,x1,false,fun _=>0,ao,cap,F) cC (HV.o.2.2.2.2.2.2.2.2.mono (((uM _ Y).drew.mono HV.o.1.l9).trans (H3.o.2.2.2.mono HY.o.l9))) ⟨jx,HV.o.2.2.2.2.2.2.1,H3.o.2.1,fun g hg=>aW g (H3.o.2.2.1 hF g hg).1 (H3.o.2.2.1 hF g hg).2⟩;unfold VD AZ at fU;dsimp only at fU
  have HF:Aside (sg (K x2) x4 F/\F≠ []/\(∀y∈F,y∈G)/\Below B w w3/\F.length<=i):=⟨H3.o.1,hF,fun y hy=>HV.o.2.2.2.2.2.1.G5.sub x2 jx y (hFl.2 y hy),hb3,hFi⟩
  have HM3:Aside (q8 gd B n bm K st (N.eraseIdx k) w3/\B<=w3.heap.size):=⟨⟨_,_,_,_,_,_,_,_,cC⟩,cC.l9⟩
  go_wp2_with fail;refine fU.mono ?_;rintro e w4 (⟨h30,rfl,HB⟩ | ⟨h30,rfl,HB⟩)
  ·rw [mO (show (8:Nat)≠0 by omega)];go_wp2;go_ret;obtain ⟨_,_,_,_,_,_,_,_,cC⟩:=HM3.o.1
   exact ⟨_,K,D,st,N.eraseIdx k,rfl,⟨⟨_,_,_,_,_,_,_,_,cC.later HB.o⟩,HF.o.2.2.2.1.trans (HB.o.mono HM3.o.2),HV.o.2.2.2.2.2.1,hel,.inr ⟨k,_,rfl,HV.o.2.2.2.2.2.2.2.1,.inl ⟨rfl,rfl,rfl,F,HF.o.1,.inl ⟨.inr h30,rfl⟩⟩⟩,fun _=>rfl⟩,fun q=>absurd ⟨zj,zj⟩ q,fun k' x' e1 e2 e3=>by
    obtain rfl:k=k':=zj
    rw [HV.o.2.2.2.2.2.2.2.1] at e2
    cases e2
    cases e3⟩
  go_wp2;go_ret;obtain ⟨fv',ow',hm',hb'⟩:=HB.o
  refine ⟨_,K,D,st,_,rfl,⟨⟨_,_,_,_,_,_,_,_,hm'⟩,HF.o.2.2.2.1.trans hb',HV.o.2.2.2.2.2.1.L5 (fun y hy=> ?_),by rw [uQ];simp;omega,.inr ⟨k,_,rfl,HV.o.2.2.2.2.2.2.2.1,.inl ⟨rfl,rfl,rfl,F,HF.o.1,.inr ⟨HF.o.2.1,h30,ao,cap,rfl⟩⟩⟩,fun _=>rfl⟩,fun q=>absurd ⟨zj,zj⟩ q,fun k' x' e1 e2 e3=>by
   obtain rfl:k=k':=zj
   rw [HV.o.2.2.2.2.2.2.2.1] at e2
   cases e2
   cases e3⟩
  rcases uV.1 hy with p | p
  ·exact .inl p
  rw [Zf.1 p];exact .inr ⟨HF.o.2.2.1,HF.o.2.2.2.2⟩
end
section
open RowKit Lib
open scoped Classical
def nH(K:qH)(a m:Nat):List nO:=((List.range m).filter (fun b=>decide (b≠a))).map (fun b=>DF a b (oV (K a)))
def mL(K:qH)(n m:Nat):List nO:=(List.range m).flatMap (fun a=>nH K a n)
theorem Gk(K)(a):nH K a (a+1)=nH K a a:=by
 unfold nH;rw [Yq,Ya];simp
theorem Fc(K){a m}(h:a≠m):nH K a (m+1)=nH K a m++ [DF a m (oV (K a))]:=by
 unfold nH;rw [Yq,Ya,ZL]
 grind
theorem Ak(K)(n m):mL K n (m+1)=mL K n m++nH K m n:=by
 unfold mL;rw [Yq,List.flatMap_append];simp
theorem Ba(K)(a m):(nH K a m).length<=m:=by
 grind [nH,Zh,uO,Yi]
theorem tF(K)(n):∀m,(mL K n m).length<=m*n
 | 0=>by simp [mL]
 | m+1=>by
  rw [Ak,uQ];have h1:=tF K n m
  grind [Ba,YC]
theorem mem_asks{K}{n m}{x} :x∈mL K n m↔∃a b,a<m/\b<n/\a≠b/\x=DF a b (oV (K a)):=by
 unfold mL nH;simp only [List.mem_flatMap,List.mem_range,Zj,Ye]
 grind
def left:List nO->Nat
 | []=>0
 | x::t=>(if x.2.2.1=true then 2 else 1)+left t
theorem Cq:∀(a b:qJ),left (a++b)=left a+left b
 | [],b=>by simp [left]
 | x::a,b=>by
  show _+left (a++b)=_+left a+left b
  rw [Cq a b];omega
structure Rnd (n:Nat) (G:qX) (K0 K:qH) (N:qJ):Prop where
 parts:∃A C,N=A++C/\(A≠ []->K=K0)/\(∀x∈A,∃a b,a<n/\b<n/\a≠b/\x=DF a b (oV (K0 a)))/\∀x∈C,x.2.2.1=false/\x.1<n/\x.2.1<n/\sg (K0 x.1) (oV (K0 x.2.1)) (Hf x)
 act:N.length<=16
 aay:∀r,r<n->∀x∈lX (K0 r),x∈lX (K r)
 told:∀a b,a<n->b<n->a≠b->DF a b (oV (K0 a))∈N\/(∃x∈N,x.2.2.1=false/\x.1=b/\x.2.1=a)\/∀y∈lX (K0 b),y∈lX (K a)
theorem Rnd.start{n}{G}{K}(hn:n<=4):Rnd n G K K (mL K n n):=by
 refine ⟨⟨mL K n n,[],zr,fun _=>rfl,fun x hx=>mem_asks.1 hx,fun x hx=>ya⟩,?_,fun r _ x hx=>hx,fun a b ha hb hne=>.inl (mem_asks.2 ⟨a,b,ha,hb,hne,rfl⟩)⟩;have:=tF K n n;have:=Nat.mul_le_mul hn hn;omega
theorem Rnd.next{n i}{G}{K0 K K'}{D0}{st0 st}{N N' N0}{v}(h:Rnd n G K0 K N)(h0:r9 n i G K0 D0 st0 N0)(hne:N≠ [])(hd:Rt G K K' st N N' 0 v)(hN':N'.length<=30):Rnd n G K0 K' N'/\left N'<left N:=by
 obtain ⟨A,C,rfl,hA0,hA,hC⟩:=h.parts
 rcases hd with ⟨q,_⟩ | ⟨k,x,hk,hx,hd⟩
 ·exfalso;apply q;have:=YG.2 hne;omega
 obtain rfl:k=0:=zj;have hl:=h.act
 rcases hd with ⟨gJ,_,rfl,F,hF,hN⟩ | ⟨gJ,rfl,hH,_⟩
 ·
  cases A with
  | nil=>
   grind
  | cons y A'=>
   have hyx:y=x:=by simpa using hx
   subst hyx;obtain ⟨a,b,ha,hb,hab,rfl⟩:=hA _ Zn;have hK:=hA0 zr;have he:(DF a b (oV (K0 a))::A'++C).eraseIdx 0=A'++C:=rfl;rw [he] at hN
   have hF':sg (K0 b) (oV (K0 a)) F:=by have q:=hF;rw [hK] at q;exact q
   rcases hN with ⟨hno,rfl⟩ | ⟨_,_,ao,cap,rfl⟩
   ·refine ⟨⟨⟨A',C,rfl,fun _=>hK,fun x hx=>hA x (uY _ hx),hC⟩,uk,h.aay,fun a' b' ha' hb' io=> ?_⟩,?_⟩
    ·rcases h.told a' b' ha' hb' io with q | q | q
     ·rcases uX.1 (show DF a' b' (oV (K0 a'))∈DF a b (oV (K0 a))::(A'++C) from q) with e | q
      ·have e1:a'=a:=by have:=congrArg (·.1) e;exact this
       have e2:b'=b:=by have:=congrArg (·.2.1) e;exact this
       subst e1;subst e2;right;right;intro y hy
       rcases hno with hF0 | h30
       ·obtain ⟨ys,y1,y2⟩:=hF';have hd:=EZ (h0.GC a' ha') (h0.GC b' hb') (h0.G5.aba (fun z hz=>h0.G5.sub a' ha' z hz) (fun z hz=>h0.G5.sub b' hb' z hz)) y1;rw [<-y2,hF0] at hd;rw [hK];by_cases hm:y∈lX (K0 a')
        ·exact hm
        have:=(hd.2.2 y).2 ⟨hy,hm⟩;simp at this
       simp at hl h30;omega
      exact .inl q
     ·obtain ⟨z,hz,z1,z2⟩:=q
      rcases uX.1 (show z∈DF a b (oV (K0 a))::(A'++C) from hz) with e | hz
      ·rw [e] at z1
       cases z1
      exact .inr (.inl ⟨z,hz,z1,z2⟩)
     exact .inr (.inr q)
    simp_all [left,DF,oV,if_pos]
   refine ⟨⟨⟨A',C++ [(b,a,false,fun _=>0,ao,cap,F)],by rw [Zo];rfl,fun _=>hK,fun x hx=>hA x (uY _ hx),fun x hx=> ?_⟩,uk,h.aay,fun a' b' ha' hb' io=> ?_⟩,?_⟩
   ·grind
   ·rcases h.told a' b' ha' hb' io with q | q | q
    ·rcases uX.1 (show DF a' b' (oV (K0 a'))∈DF a b (oV (K0 a))::(A'++C) from q) with e | q
     ·have e1:a'=a:=by have:=congrArg (·.1) e;exact this
      have e2:b'=b:=by have:=congrArg (·.2.1) e;exact this
      subst e1;subst e2;exact .inr (.inl ⟨_,ZB _ (Zf.2 rfl),rfl,rfl,rfl⟩)
     exact .inl (Zm _ q)
    ·obtain ⟨z,hz,z1,z2⟩:=q
     rcases uX.1 (show z∈DF a b (oV (K0 a))::(A'++C) from hz) with e | hz
     ·rw [e] at z1
      cases z1
     exact .inr (.inl ⟨z,Zm _ hz,z1,z2⟩)
    simp_all
   rw [Cq]
   show left (A'++C)+left [((b,a,false,fun _=>0,ao,cap,F):nO)]<(if (DF a b (oV (K0 a))).2.2.1=true then 2 else 1)+left (A'++C)
   rw [if_pos (show (DF a b (oV (K0 a))).2.2.1=true from rfl)]
   have:left [((b,a,false,fun _=>0,ao,cap,F):nO)]=1:=by simp [left]
   omega
 ·
  cases A with
  | cons y A'=>
   exfalso
   have:y=x:=by simpa using hx
   subst this;obtain ⟨a,b,_,_,_,rfl⟩:=hA _ Zn
   cases gJ
  | nil=>
   cases C with
   | nil=>exact absurd rfl hne
   | cons y C'=>
    have:y=x:=by simpa using hx
    subst this;obtain ⟨c1,hb,ha,hF⟩:=hC y zr;have he:(([]:qJ)++y::C').eraseIdx 0=C':=rfl;rw [he];obtain ⟨hr,hg,dy,jQ⟩:=hH
    have k8:Xg G (lX (K y.2.1)) (Hf y):=by
     obtain ⟨ys,y1,y2⟩:=hF;have hd:=EZ (h0.GC _ ha) (h0.GC _ hb) (h0.G5.aba (fun z hz=>h0.G5.sub _ ha z hz) (fun z hz=>h0.G5.sub _ hb z hz)) y1;rw [<-y2] at hd;refine ⟨lX (K0 y.1),(h0.GC _ hb).G6,fun z hz=>h0.G5.sub _ hb z hz,fun z hz=>((hd.2.2 z).1 hz).1,fun z hz=> ?_⟩;by_cases hm:z∈lX (K0 y.2.1)
     ·exact .inl (h.aay _ ha z hm)
     exact .inr ((hd.2.2 z).2 ⟨hz,hm⟩)
    have hnew:=jQ k8
    have ip:∀r,∀z∈lX (K r),z∈lX (K' r):=fun r z hz=>by
     by_cases e:r=y.2.1
     ·rw [e] at hz |-;exact hg z hz
     rw [hr r e];exact hz
    refine ⟨⟨⟨[],C',rfl,fun q=>absurd rfl q,fun x hx=>ya,fun x hx=>hC x (uY _ hx)⟩,uk,fun r hr' z hz=>ip r z (h.aay r hr' z hz),fun a' b' ha' hb' io=> ?_⟩,?_⟩
    ·rcases h.told a' b' ha' hb' io with q | q | q
     ·rcases uX.1 (show DF a' b' (oV (K0 a'))∈y::C' from q) with e | q
      ·rw [<-e] at c1
       cases c1
      exact .inl q
     ·obtain ⟨z,hz,z1,z2,z3⟩:=q
      rcases uX.1 (show z∈y::C' from hz) with e | hz
      ·subst e;right;right;intro u hu;subst z2;subst z3;obtain ⟨T,t1,t2,t3,t4⟩:=k8;obtain ⟨ys,y1,y2⟩:=hF;have hd:=EZ (h0.GC _ ha) (h0.GC _ hb) (h0.G5.aba (fun z hz=>h0.G5.sub _ ha z hz) (fun z hz=>h0.G5.sub _ hb z hz)) y1;rw [<-y2] at hd;by_cases hm:u∈lX (K0 z.2.1)
       ·exact ip _ u (h.aay _ ha u hm)
       exact hnew u ((hd.2.2 u).2 ⟨hu,hm⟩)
      exact .inr (.inl ⟨z,hz,z1,z2,z3⟩)
     exact .inr (.inr (fun u hu=>ip _ u (q u hu)))
    grind [left]
theorem Rnd.done{n i}{G}{K0 K}{D0}{st0}{N0}(h:Rnd n G K0 K [])(h0:r9 n i G K0 D0 st0 N0):∀r,r<n->∀x∈G,x∈lX (K r):=fun r hr x hx=>by
 obtain ⟨b,hb,_,hD⟩:=h0.G5.I8 x hx;have hS:=h0.G5.B6 b hb x hD;by_cases e:r=b
 ·subst e;exact h.aay r hr x hS
 rcases h.told r b hr hb e with q | ⟨z,hz,_⟩ | q
 ·simp at q
 ·simp at hz
 exact q x hS
end
section
open RowKit Lib Go.Sort Maps
open scoped Classical
theorem Ko{gd}{B}{ad}{n bm}{K}{st}(w)(hn4:n<=4)(h:q8 gd B n bm K st [] w)(hE:E6 B ad w)(hK:∀r,r<n->(lX (K r)).length<=1000):
  qC 93 #[qP bm] w fun e w'=>(∃u,e= .returned u)/\Aside (q8 gd B n bm K st (mL K n n) w'/\Below B w w'):=by
 have HM:Aside (q8 gd B n bm K st [] w/\E6 B ad w/\B<=w.heap.size):=⟨h,hE,hE.t.G3.size⟩
 obtain ⟨ow,pv,fv,bp,br,d,dv,c,hm⟩:=h;have m0:=hm.C9.c0;obtain ⟨po,pc,eF⟩:=mC hm.K8;subst eF;go_enter func93,ntmps93;go_wp2;go_loopg [9] n (fun kx s9 wr=>∃k:Nat,s9=qN k/\k<=n/\n - k<=kx/\Aside (q8 gd B n bm K st (mL K n k) wr/\Below B w wr))
 case atStart=>exact ⟨0,rfl,uW _,uL _,HM.o.1,uM _ _⟩
 case round=>
  obtain ⟨k,rfl,hk,aY,A⟩:=hrel;by_cases hlt:k<n
  ·have d1:qlt k n=true:=by simp;omega
   have dr:decide (k<n)=true:=zm;have HMK:Aside (q8 gd B n bm K st (mL K n k) wr/\Below B w wr):=A.o;obtain ⟨ow1,pv1,fv1,bp1,br1,d1',dv1,c1,hm1⟩:=A.o.1;have m1:=hm1.C9.c0;obtain ⟨po1,pc1,hpv1⟩:=mC hm1.K8;subst hpv1;obtain ⟨u,hu⟩:=za wr;subst hu;go_wp2;go_loopg [17] n (fun ky js wy=>∃m:Nat,js=qN m/\m<=n/\n - m<=ky/\Aside (q8 gd B n bm K st (mL K n k++nH K k m) wy/\Below B w wy))
   case atStart=>exact ⟨0,rfl,uW _,uL _,by rw [show nH K k 0= [] from rfl,Yd];exact HMK.o⟩
   case round=>
    obtain ⟨m,rfl,hm',hmx,A⟩:=hrel;by_cases hlm:m<n
    ·have e1:qlt m n=true:=by simp;omega
     have e1n:decide (m<n)=true:=zm;by_cases hkm:k=m
     ·subst hkm;have e2:((k:Int)==(k:Int))=true:=zr;have e3:((k:Int) !=(k:Int))=false:=zr
      have HA:Aside (q8 gd B n bm K st (mL K n k++nH K k (k+1)) wr/\Below B w wr):=by rw [Gk];exact A.o
      go_wp2;go_roundg (n - (k+1))
      case measure=>omega
      case rel=>exact ⟨k+1,zN,zj,uL _,HA.o⟩
     have e2:((k:Int)==(m:Int))=false:=xJ
     have e3:((k:Int) !=(m:Int))=true:=by rw [bne_iff_ne];omega
     have gJ:=PH wr (k:Int) (m:Int) A.o.1 (HM.o.2.1.mono A.o.2) hK ⟨zj,zj⟩ ⟨zj,zj⟩
     have hlen:(mL K n k++nH K k m).length<30:=by
      have h1:=tF K n k;have h2:=Ba K k m;have h3:k*n<=3*4:=Nat.mul_le_mul zj hn4;rw [uQ];omega
     have HB:Aside (Below B w wr/\(mL K n k++nH K k m).length<30/\k≠m):=⟨A.o.2,hlen,hkm⟩
     obtain ⟨u2,hu2⟩:=za wr;subst hu2;go_wp2_with fail;refine gJ.mono ?_;rintro e w2 ⟨v2,N2,rfl,H2,_⟩
     have HA:Aside (q8 gd B n bm K st (mL K n k++nH K k (m+1)) w2/\Below B w w2):=by
      refine ⟨?_,HB.o.1.trans H2.o.2.1⟩
      rcases H2.o.2.2 with ⟨_,_,a',b',_,_,_,e1,e2,e3⟩ | ⟨_,q⟩
      ·obtain rfl:k=a':=by omega
       obtain rfl:m=b':=zj;rw [Fc K HB.o.2.2,<-Zo,<-e3];exact H2.o.1
      exact absurd ⟨⟨zj,zj⟩,⟨zj,zj⟩,fun e=>HB.o.2.2 zj,HB.o.2.1⟩ q
     go_wp2;go_roundg (n - (m+1))
     case measure=>omega
     case rel=>exact ⟨m+1,zN,zj,uL _,HA.o⟩
    have e1:qlt m n=false:=zm;have e1n:decide (m<n)=false:=zm;obtain rfl:m=n:=zj
    have HA:Aside (q8 gd B m bm K st (mL K m (k+1)) wr/\Below B w wr):=by rw [Ak];exact A.o
    go_wp2;go_roundg (m - (k+1))
    case measure=>omega
    case rel=>exact ⟨k+1,zN,zj,uL _,HA.o⟩
  have d1:qlt k n=false:=zm;have dr:decide (k<n)=false:=zm;obtain rfl:k=n:=zj;have HA:Aside (q8 gd B k bm K st (mL K k k) wr/\Below B w wr):=A.o;go_wp2;go_end0;exact ⟨⟨_,rfl⟩,HA.o⟩
def QY(n:Nat)(K:qH):Prop:=∀r,r<n->∀x,x∈lX (K r)↔x∈lX (K 0)
structure aaG (w:qW) (Mb bm pg n pc:Nat) (fv:Value) (bp br d:Nat->Nat):Prop where
 F3:w.cell? (qB Mb)=some (qP bm)
 C9:G0 w bm (qG pg n pc) fv
 row:∀r,r<n->w.cell? (qA pg r)=some (qP (bp r))
 GA:∀r,r<n->t8 w (bp r) (br r) (d r)
theorem aaG.later{w w'}{Mb bm pg n pc}{fv}{bp br d}(h:aaG w Mb bm pg n pc fv bp br d)(hb:qL w w'):aaG w' Mb bm pg n pc fv bp br d:=
 ⟨oJ hb h.F3,(hb.block bm h.C9.lt).trans h.C9,fun r hr=>oJ hb (h.row r hr),fun r hr=>(h.GA r hr).same (hb.block _ (h.GA r hr).lt)⟩
theorem LB{gd}{B}{ad}{n bm}{K}{st}{N}{ow}{fv}{bp br d}{dv}{c}{pg pc Mb}(w)(r)(hr:r<n)(h:n9 gd B w ow n bm (qG pg n pc) fv bp br d dv c K st N)(hE:E6 B ad w)(hA:aaG w Mb bm pg n pc fv bp br d)(hK:∀r,r<n->(lX (K r)).length<=300):
  qC 125 #[qP (bp r),qP Mb] w fun e w'=>∃z:Bool,e= .returned (.bool z)/\Aside ((QY n K->z=false)/\qL w w'):=by
 have h0:0<n:=zj;have hmD:=h.later (uM _ w).drew;have hED:=hE.later (uM _ w).drew;have aI:=Co w.drew (c r) (br r) (r:Int) (K r) (hmD.GP r hr).1.GP hED.t.is (hK r hr);have SD:=hA.later (uM _ w).drew
 have HM:Aside (n9 gd B w.drew ow n bm (qG pg n pc) fv bp br d dv c K st N/\E6 B ad w.drew):=⟨hmD,hED⟩
 go_enter func125,ntmps125;go_upto_region 1 with fail;refine lV (S:=(fun w'=>aaG w' Mb bm pg n pc fv bp br d)) zk SD (fun aa=> ?_);refine tk 0 aa ?_ (y:=ty zl);refine tk 1 aa ?_ (y:=ty zl);refine tk 2 aa ?_ (y:=ty zl);refine tk 3 aa ?_ (y:=ty (by intro w' ab;have q1:=(ab.GA r hr).c0;clear ab;go_simp;try with_reducible rfl));refine tk 5 aa ?_ (y:=ty (by intro w' ab;have q1:=ab.F3;clear ab;go_simp;try with_reducible rfl));refine tk 6 aa ?_ (y:=ty zl);refine tk 7 aa ?_ (y:=ty zl);refine tk 8 aa ?_ (y:=ty (by intro w' ab;have q1:=ab.C9.c0;clear ab;go_simp;try with_reducible rfl));refine tk 9 aa ?_ (y:=ty zl);refine tk 10 aa ?_ (y:=ty (by intro w' ab;have q1:=ab.row 0 h0;clear ab;go_simp;try with_reducible rfl));refine tk 11 aa ?_ (y:=ty zl);refine tk 12 aa ?_ (y:=ty zl);refine tk 13 aa ?_ (y:=ty (by intro w' ab;have q1:=(ab.GA 0 h0).c0;clear ab;go_simp;try with_reducible rfl));refine an (i:=4) zk rfl (fun kQ dl=> ?_);go_simp;refine aI.mono ?_;rintro e w2 ⟨s1,rfl,hS1,hb2⟩;have S2:=SD.later hb2;have bR:=HM.o.1.later hb2;have aJ:=Co w2 (c 0) (br 0) ((0:Nat):Int) (K 0) (bR.GP 0 h0).1.GP (HM.o.2.later hb2).t.is (hK 0 h0)
 obtain ⟨X,hX⟩:∃X:ByteArray,Aside (X=⟨s1.toArray⟩):=⟨_,rfl⟩
 rw [<-hX.o]
 have cX:Aside (qL w w2/\GB (lX (K r)) s1):=⟨(uM _ w).drew.trans hb2,hS1⟩
 refine dl _ _ S2 ?_;refine qn ?_;refine an (i:=14) zk rfl (fun kQ dl=> ?_);go_simp;refine aJ.mono ?_;rintro e w3 ⟨s2,rfl,hS2,hb3⟩;have S3:=S2.later hb3
 obtain ⟨Y,hY⟩:∃Y:ByteArray,Aside (Y=⟨s2.toArray⟩):=⟨_,rfl⟩
 rw [<-hY.o]
 have fe:Aside (qL w w3/\GB (lX (K 0)) s2):=⟨zi cX.o.1 hb3,hS2⟩
 refine dl _ _ S3 ?_;have aa:=S3;refine qn ?_;refine tk 15 aa ?_ (y:=ty zl);refine an (i:=16) zk rfl (fun kQ hK=> ?_);go_simp;refine hK _ _ S3 ?_;refine wpAnyH_done zk ?_ _;refine qn ?_;go_wp2;go_ret;refine ⟨_,rfl,fun hal=> ?_,fe.o.1⟩;have k1:=(HM.o.1.GP r hr).1.h;have k2:=(HM.o.1.GP 0 h0).1.h;have hst:=GB.same k1.G6 ((List.perm_ext_iff_of_nodup k1.num.J2 k2.num.J2).2 (hal r hr)) cX.o.2 fe.o.2
 have hXY:X=Y:=by rw [hX.o,hY.o,hst]
 subst hXY;simp
theorem RL{gd}{B}{ad}{n bm}{K}{st}{N}{ow}{fv}{bp br d}{dv}{c}{pg pc Mb}(w)(eg:∀args w,(callFunc 125 args).run prog w= .ok (.enter 125 args) w)(h:n9 gd B w ow n bm (qG pg n pc) fv bp br d dv c K st N)(hE:E6 B ad w)(hA:aaG w Mb bm pg n pc fv bp br d)(hK:∀r,r<n->(lX (K r)).length<=300):
  qC 169 #[qG pg n pc,.func (.func 125) #[] #[qP Mb]] w fun e w'=>∃z:Int,e= .returned (qI z)/\Aside ((QY n K->z= -1)/\qL w w'):=by
 have HM:Aside (n9 gd B w ow n bm (qG pg n pc) fv bp br d dv c K st N/\E6 B ad w/\aaG w Mb bm pg n pc fv bp br d):=⟨h,hE,hA⟩
 have hn4:=h.W9;go_enter func169,ntmps169;go_wp2;go_loopg [5,8] n (fun kx _ s8 wr=>∃(k:Nat),s8=qN k/\k<=n/\n - k<=kx/\Aside (qL w wr))
 case atStart=>exact ⟨0,rfl,uW _,uL _,uM _ w⟩
 case round=>
  obtain ⟨k,rfl,hk,aY,A⟩:=hrel;by_cases hlt:k<n
  ·have aq:qlt k n=true:=by simp;omega
   have hltn:decide (k<n)=true:=zm;have ek:((k:Int)).toNat=k:=zj;have pk:(0:Int)<=(k:Int):=zj;have bk:(k:Int)<(n:Int):=zj;have r0:=(HM.o.2.2.later A.o).row k hlt;have ac:=LB wr k hlt (HM.o.1.later A.o) (HM.o.2.1.later A.o) (HM.o.2.2.later A.o) hK;have HA:Aside (qL w wr):=A.o;go_wp2_with fail;go_at_fn 125;refine ac.mono ?_;rintro e w1 ⟨z,rfl,HZ⟩;have HB1:Aside (qL w w1):=zi HA.o HZ.o.2
   cases z with
   | true=>
    go_wp2;go_ret;exact ⟨_,rfl,fun q=>absurd (HZ.o.1 q) zo,HB1.o⟩
   | false=>
    go_wp2;go_roundg (n - (k+1))
    case measure=>omega
    case rel=>exact ⟨k+1,zN,zj,uL _,HB1.o⟩
  have aq:qlt k n=false:=zm;have hltn:decide (k<n)=false:=zm;have HA:Aside (qL w wr):=A.o;go_wp2;go_ret;exact ⟨_,rfl,fun _=>rfl,HA.o⟩
theorem PB{gd}{B}{ad}{n bm}{K}{st}{N}{ow}{fv}{bp br d}{dv}{c}{pg pc Mb}(w)(h:n9 gd B w ow n bm (qG pg n pc) fv bp br d dv c K st N)(hE:E6 B ad w)(hA:aaG w Mb bm pg n pc fv bp br d)(hK:∀r,r<n->(lX (K r)).length<=300):
  qC 124 #[qG pg n pc,.func (.func 125) #[] #[qP Mb]] w fun e w'=>∃z:Bool,e= .returned (.bool z)/\Aside ((QY n K->z=false)/\qL w w'):=by
 have eg:∀args w,(callFunc 125 args).run prog w= .ok (.enter 125 args) w:=enters_of func125 zk rfl;have cG:=RL w eg h hE hA hK;go_enter func124,ntmps124;go_wp2_with fail;refine cG.mono ?_;rintro e w1 ⟨z,rfl,HZ⟩;go_wp2;go_ret;exact ⟨_,rfl,fun q=>by rw [HZ.o.1 q];rfl,HZ.o.2⟩
theorem NP{gd}{B}{ad}{n bm}{K}{st}{N}(w)(hn:1<=n)(h:q8 gd B n bm K st N w)(hE:E6 B ad w)(hK:∀r,r<n->(lX (K r)).length<=300):
  qC 94 #[qP bm] w fun e w'=>∃z:Bool,e= .returned (.bool z)/\Aside ((QY n K->z=true)/\qL w w'):=by
 obtain ⟨ow,pv,fv,bp,br,d,dv,c,hm⟩:=h
 have eF:∃pg pc,pv=qG pg n pc:=by
  rcases hm.K8.2 with ⟨_,q⟩ | ⟨g,cap,cur,q,_⟩
  ·omega
  exact ⟨g,cap,q⟩
 obtain ⟨pg,pc,rfl⟩:=eF;obtain ⟨Mb,hMb⟩:=ze w.heap.size;obtain ⟨U,hU⟩:=ze (w.alloc (.cells #[qP bm] 41));have ah:qL w U:=yB;have dN:=hm.later ah
 have bK:U.cell? (qB Mb)=some (qP bm):=by
  have:=heap_alloc_new w (.cells #[qP bm] 41);unfold World.cell?;dsimp only;rw [hU.o,hMb.o,this];rfl
 have hA:aaG U Mb bm pg n pc fv bp br d:=⟨bK,dN.C9,fun r hr=>by rw [dN.K8.cellAt r zj,Bj bp hr],fun r hr=>(dN.GA r hr).1⟩
 have hhs:=PB U dN (hE.later ah) hA hK;have m0:=dN.C9.c0;have HB:Aside (qL w U):=ah;go_enter func94,ntmps94;go_upto_region 1 with fail;rw [<-hU.o,<-hMb.o];go_wp2_with fail;refine hhs.mono ?_;rintro e w1 ⟨z,rfl,HZ⟩;go_wp2;go_ret;exact ⟨_,rfl,fun q=>by rw [HZ.o.1 q];rfl,zi HB.o HZ.o.2⟩
theorem Ga{S l}{ix}{cd}(h:oW S l (.inl (ix,cd))):1<=cd/\cd<=11/\(ix= -1\/0<=ix):=by
 have fT:∀(l:qX) (i:Nat) (F:qX) (a:Nat×Nat),oX S i F l= .inl a->1<=a.2/\a.2<=11:=by
  intro l
  induction l with
  | nil=>intro i F a ha;cases ha
  | cons o t ih=>
   intro i F a ha;by_cases he:mv o=0
   ·cases hl:nM (S++F) (byO o) (mB o) with
    | none=>rw [BD he hl] at ha;exact ih _ _ _ ha
    | some x=>
     by_cases hx:x=o
     ·subst hx;rw [rd he hl] at ha;exact ih _ _ _ ha
     rw [sA he hl hx] at ha
     cases ha
     exact ⟨by show 1<=7;decide,by show 7<=11;decide⟩
   rw [FY he] at ha
   cases ha
   have:=OE o;exact ⟨by show 1<=mv o;omega,by show mv o<=11;omega⟩
 grind [oW,oX]
def Vi(K K':qH)(st st':qD)(a:Nat)(l:qX)(cd:Nat):Prop:=(∃ix,oW (lX (K a)) l (.inl (ix,cd))/\K'=K/\st'=st)\/(∃fresh R' F,oW (lX (K a)) l (.inr fresh)/\K'=lR K a R'/\u9 R'/\(∀x,x∈lX R'↔x∈lX (K a)\/x∈l)/\sg R' (oV (K a)) F/\cd=(oe (st a) F).1/\st'=lR st a (oe (st a) F).2)
theorem OU(s)(x):(pN s x).1<=11:=by
 unfold pN;split
 ·show wt x<=11
  exact uO (show wt x<=5 from OE x) zj
 grind
theorem Gu:∀(F:qX) (s:DSt),(oe s F).1<=11
 | [],s=>by show 0<=11;omega
 | y::ys,s=>by
  show (if (pN s y).1=0 then oe (pN s y).2 ys else pN s y).1<=11
  split
  ·exact Gu ys _
  exact OU s y
theorem WN{ad}{K K'}{st st'}{a}{l}{v}(h:Ru ad K K' st st' a l v):∃cd,v=eV ad cd/\cd<=11/\Vi K K' st st' a l cd:=by
 rcases h with ⟨ix,cd,h1,h2,h3,h4,h5⟩ | ⟨fresh,R',F,h1,h2,h3,h4,h5,h6,h7⟩
 ·exact ⟨cd,h3,(Ga h1).2.1,.inl ⟨ix,h1,h4,h5⟩⟩
 exact ⟨_,h6,Gu F _,.inr ⟨fresh,R',F,h1,h2,h3,h4,h5,rfl,h7⟩⟩
def zdf(K:qH)(st:qD)(N:qJ)(r s:Nat)(K':qH)(st':qD)(N':qJ)(cd:Nat):Prop:=K'=K/\st'=st/\((N.length<30/\cd=0/\N'=N++ [DF r s (oV (K r))])\/(30<=N.length/\cd=8/\N'=N))
def zdk(K:qH)(st:qD)(N:qJ)(m:Nat)(K':qH)(st':qD)(N':qJ)(cd:Nat):Prop:=K'=K/\st'=st/\((N.length<=m/\cd=6/\N'=N)\/(m<N.length/\cd=0/\N'=N.eraseIdx m))
def zdj(K:qH)(st:qD)(N:qJ)(m:Nat)(K':qH)(st':qD)(N':qJ)(cd:Nat):Prop:=K'=K/\st'=st/\((N.length<=m/\cd=6/\N'=N)\/∃x,N[m]? =some x/\((N.length<30/\cd=0/\N'=N++ [x])\/(30<=N.length/\cd=8/\N'=N)))
def zaQ(K:qH)(st:qD)(N:qJ)(m:Nat)(K':qH)(st':qD)(N':qJ)(cd:Nat):Prop:=(N.length<=m/\cd=6/\K'=K/\st'=st/\N'=N)\/∃x:nO,N[m]? =some x/\((x.2.2.1=true/\cd=0/\K'=K/\st'=st/\∃F,sg (K x.2.1) x.2.2.2.1 F/\(((F= []\/30<=(N.eraseIdx m).length)/\N'=N.eraseIdx m)\/(F≠ []/\(N.eraseIdx m).length<30/\∃ao cap,N'=N.eraseIdx m++ [(x.2.1,x.1,false,fun _=>0,ao,cap,F)])))\/(x.2.2.1=false/\N'=N.eraseIdx m/\Vi K K' st st' x.2.1 (Hf x) cd))
theorem zco{ad}{G}{K K'}{st st'}{N N'}{m:Nat}{v}(h:Rt G K K' st N N' (m:Int) v)(h2:(∃(k:Nat) (x:nO),(m:Int)=(k:Int)/\N[k]? =some x/\x.2.2.1=true)->st'=st)(h3:zdg ad K K' st st' N (m:Int) v):∃cd,v=eV ad cd/\cd<=11/\zaQ K st N m K' st' N' cd:=by
 rcases h with ⟨q,e1,e2⟩ | ⟨k,x,e,hx,h⟩
 ·obtain ⟨v1,s1⟩:=h3.1 q;exact ⟨6,v1,zj,.inl ⟨zj,rfl,e2,s1,e1⟩⟩
 obtain rfl:m=k:=zj
 rcases h with ⟨ha,hv,hK,F,hF,hN⟩ | ⟨ha,hN,_,_⟩
 ·exact ⟨0,hv,zj,.inr ⟨x,hx,.inl ⟨ha,rfl,hK,h2 ⟨m,x,rfl,hx,ha⟩,F,hF,hN⟩⟩⟩
 obtain ⟨cd,hv,hc,hy⟩:=WN (h3.2 m x rfl hx ha);exact ⟨cd,hv,hc,.inr ⟨x,hx,.inr ⟨ha,hN,hy⟩⟩⟩
theorem zbW{A}{T}{i n}{x}{a}(h:FN A T i n x a):a.2<=11:=by
 rcases h with ⟨_,h⟩ | ⟨_,_,_,_,h⟩
 ·exact XH h
 simp_all
theorem Xk{A}{T}{i n}{x}{a}(h:FN A T i n x a)(hc:a.2≠0):a.1=lQ:=by
 rcases h with ⟨_,h⟩ | ⟨_,_,_,_,h⟩
 ·exact QX h hc
 rw [h]
theorem XE{R}(hR:u9 R){T}{i}{x y}(h:FN (lX R) T i (R i).length x (y,0)):U6 R i T y:=by
 rcases h with ⟨_,h⟩ | ⟨_,_,_,_,h⟩
 ·exact PT hR h
 cases h
theorem zbL{B}{ad}(w)(c)(p br d)(i:Nat)(R)(x)(hP:t8 w p br d)(h:B9 B w c br (i:Int) R)(hE:E6 B ad w)(hi:i<4)(hn:(lX R).length<=250)(hx:zcy x):
  qC 152 #[qP p,mJ x] w (TM ad w R i (fun y cd=>∃T,oE (lX R) T/\FN (lX R) T i (R i).length x (y,cd))):=by
 obtain ⟨T,kv,bt,bx,bc,A,hm',hp,ht⟩:=h.GP.time
 refine (Ri w c p br d i R x hP h hE.t hE.cyc hi T ht (Qx h.h.G6.ok ht).2 hn (by have:=hx.1;omega) (by have:=hx.2.1;omega) hx.2.2.1 hx.2.2.2.1 hx.2.2.2.2).mono fun e w' q=> ?_
 obtain ⟨y,cd,e1,e2⟩:=q;refine ⟨y,cd,e1,⟨e2.o.1,uO (zbW e2.o.2) zo,?_⟩,⟨T,ht,e2.o.2⟩⟩;by_cases hc:cd=0
 ·subst hc;exact .inr ⟨rfl,T,ht,XE h.h e2.o.2⟩
 exact .inl ⟨hc,Xk e2.o.2 hc⟩
def Vj(K:qH)(st:qD)(N:qJ):Nat->(Nat->Rws)->(Nat->DSt)->List nO->Prop
 | 0,K',st',N'=>K'=K/\st'=st/\N'=N
 | m+1,K',st',N'=>∃K1 st1 N1 cd,Vj K st N m K1 st1 N1/\N1≠ []/\zaQ K1 st1 N1 0 K' st' N' cd
def Dd(n:Nat)(K:qH)(st:qD):Nat->(Nat->Rws)->(Nat->DSt)->Prop
 | 0,K',st'=>K'=K/\st'=st
 | k+1,K',st'=>∃K1 st1 m,Dd n K st k K1 st1/\Vj K1 st1 (mL K1 n n) m K' st' []
def Tf(K:qH)(st:qD)(K':qH)(st':qD):Prop:=Dd 3 K st 3 K' st'/\∀r q,r<3->q<3->∀x∈lX (K r),x∈lX (K' q)
def TR(gd:Nat->Option Obj)(B n bm i:Nat)(G:qX)(K:qH)(st:qD)(w:qW)(e:Ending)(w':qW):Prop:=∃(K':qH) (D':Nat->List OpX) (st':qD),e= .returned (.bool true)/\Aside (q8 gd B n bm K' st' [] w'/\Below B w w'/\r9 n i G K' D' st' []/\(∀r,r<n->∀x∈lX (K r),x∈lX (K' r))/\(∀r,r<n->∀x∈G,x∈lX (K' r))/\Dd n K st n K' st')
theorem Nc{gd}{B}{ad}{n bm}{K}{st}{N}{i}{G}{D}(w)(hn:1<=n)(h:q8 gd B n bm K st N w)(hI:r9 n i G K D st N)(hE:E6 B ad w)(hi:i<=155):
  qC 52 #[qP bm] w (TR gd B n bm i G K st w):=by
 obtain ⟨ow,pv,fv,bp,br,d,dv,c,hm⟩:=h;have hn4:=hm.W9;have m1:=hm.C9.c1;have mf:=hm.C9.fz 1;obtain ⟨jI,jN⟩:=hm.abK (w1:=w) (v:=qE) (N':=[]) (m7.refl _ w) (Zi _ _ _ _) (fun g hg=>xA) (fun x hx=>ya);obtain ⟨po,pc,eF⟩:=mC hm.K8;subst eF;obtain ⟨W,hW⟩:=ze (w.setCell (qA bm 1) qE);rw [<-hW.o] at jI jN;have m0:=jI.C9.c0;have hI0:r9 n i G K D st []:=hI.L5 (fun x hx=>ya)
 have HW:Aside (q8 gd B n bm K st [] W/\Below B w W/\r9 n i G K D st []/\E6 B ad w):=⟨⟨_,_,_,_,_,_,_,_,jI⟩,hm.m8 jN (fun k e=>zj),hI0,hE⟩
 go_enter func52,ntmps52;go_upto_region 2 with fail;rw [<-hW.o];go_wp2;go_loopg [11] n (fun kx iX wr=>∃(k:Nat) (K1:qH) (D1:Nat->List OpX) (st1:qD),iX=qN k/\k<=n/\n - k<=kx/\Aside (q8 gd B n bm K1 st1 [] wr/\Below B w wr/\r9 n i G K1 D1 st1 []/\(∀r,r<n->∀x∈lX (K r),x∈lX (K1 r))/\(1<=k->∀r,r<n->∀x∈G,x∈lX (K1 r))/\Dd n K st k K1 st1))
 case atStart=>exact ⟨0,K,D,st,rfl,uW _,uL _,HW.o.1,HW.o.2.1,HW.o.2.2.1,fun r _ x hx=>hx,fun q=>absurd q zj,rfl,rfl⟩
 case round=>
  obtain ⟨k,K1,D1,st1,rfl,hk,aY,A⟩:=hrel;by_cases hlt:k<n
  ·have d1:qlt k n=true:=by simp;omega
   have dr:decide (k<n)=true:=zm;have gJ:=Ko wr hn4 A.o.1 (HW.o.2.2.2.mono A.o.2.1) (fun r hr=>by have:=A.o.2.2.1.D4 hr;omega)
   have HA:Aside (Below B w wr/\r9 n i G K1 D1 st1 []/\(∀r,r<n->∀x∈lX (K r),x∈lX (K1 r))/\Dd n K st k K1 st1):=⟨A.o.2.1,A.o.2.2.1,A.o.2.2.2.1,A.o.2.2.2.2.2⟩
   obtain ⟨u0,bI⟩:=za wr;subst bI;go_wp2_with fail;refine gJ.mono ?_;rintro e w2 ⟨⟨u,rfl⟩,H2⟩
   have HS:Aside (q8 gd B n bm K1 st1 (mL K1 n n) w2/\Below B w w2/\r9 n i G K1 D1 st1 (mL K1 n n)/\(mL K1 n n).length<=30/\Rnd n G K1 K1 (mL K1 n n)/\∃m,Vj K1 st1 (mL K1 n n) m K1 st1 (mL K1 n n)):=by
    have hr:=Rnd.start (G:=G) (K:=K1) hn4;refine ⟨H2.o.1,HA.o.1.trans H2.o.2,HA.o.2.1.L5 (fun x hx=>.inr ?_),by have:=hr.act;omega,hr,0,rfl,rfl,rfl⟩;obtain ⟨a,b,_,_,_,rfl⟩:=mem_asks.1 hx;exact ⟨fun y hy=>absurd hy (by show ¬(y∈([]:qX));simp),uW _⟩
   go_wp2;go_loopg [22] (left (mL K1 n n)) (fun ky _ wy=>∃(K2:qH) (D2:Nat->List OpX) (st2:qD) (N2:qJ),left N2<=ky/\Aside (q8 gd B n bm K2 st2 N2 wy/\Below B w wy/\r9 n i G K2 D2 st2 N2/\N2.length<=30/\Rnd n G K1 K2 N2/\∃m,Vj K1 st1 (mL K1 n n) m K2 st2 N2))
   case atStart=>exact ⟨K1,D1,st1,_,uL _,HS.o⟩
   case round=>
    obtain ⟨K2,D2,st2,N2,kT,A⟩:=hrel;obtain ⟨ow2,pv2,fv2,bp2,br2,d2,dv2,c2,bR⟩:=A.o.1;have n1:=bR.C9.c1;obtain ⟨fo2,fc2,hfv2⟩:=mC bR.L5;subst hfv2;by_cases hN:N2= []
    ·have hN0:N2.length=0:=by rw [hN];rfl
     have e1:qlt 0 N2.length=false:=by rw [hN0];rfl
     have e1n:decide (0<N2.length)=false:=by rw [hN0];rfl
     have HD:Aside (q8 gd B n bm K2 st2 [] wr/\Below B w wr/\r9 n i G K2 D2 st2 []/\(∀r,r<n->∀x∈lX (K r),x∈lX (K2 r))/\(1<=k+1->∀r,r<n->∀x∈G,x∈lX (K2 r))/\Dd n K st (k+1) K2 st2):=by
      have hR:=A.o.2.2.2.2.1;obtain ⟨m,hdn⟩:=A.o.2.2.2.2.2;rw [hN] at hdn;have h1:=A.o.1;have h3:=A.o.2.2.1;rw [hN] at hR h1 h3;exact ⟨h1,A.o.2.1,h3,fun r hr x hx=>hR.aay r hr x (HA.o.2.2.1 r hr x hx),fun _=>hR.done HA.o.2.1,_,_,m,HA.o.2.2.2,hdn⟩
     go_wp2;go_roundg (n - (k+1))
     case measure=>omega
     case rel=>exact ⟨k+1,K2,D2,st2,zN,zj,uL _,HD.o⟩
    have hNp:=YG.2 hN;have e1:qlt 0 N2.length=true:=zm;have e1n:decide (0<N2.length)=true:=zm;have bw:=Cy wr 0 A.o.1 A.o.2.2.1 A.o.2.2.2.1 (HW.o.2.2.2.mono A.o.2.1) hi ⟨zj,zj⟩
    have HB:Aside (Below B w wr/\Rnd n G K1 K2 N2/\N2≠ []/\∃m,Vj K1 st1 (mL K1 n n) m K2 st2 N2):=⟨A.o.2.1,A.o.2.2.2.2.1,hN,A.o.2.2.2.2.2⟩
    obtain ⟨u1,cA⟩:=za wr;subst cA;go_wp2_with fail;refine bw.mono ?_;rintro e w3 ⟨v3,K3,D3,st3,N3,rfl,H3,HX⟩;have co:=HB.o.2.1.next HA.o.2.1 HB.o.2.2.1 H3.o.2.2.2.2.1 H3.o.2.2.2.1
    have H4:Aside (q8 gd B n bm K3 st3 N3 w3/\Below B w w3/\r9 n i G K3 D3 st3 N3/\N3.length<=30/\Rnd n G K1 K3 N3/\∃m,Vj K1 st1 (mL K1 n n) m K3 st3 N3):=by
     obtain ⟨cd,_,_,hdx⟩:=zco (m:=0) H3.o.2.2.2.2.1 H3.o.2.2.2.2.2 HX.o;obtain ⟨m,hdn⟩:=HB.o.2.2.2;exact ⟨H3.o.1,HB.o.1.trans H3.o.2.1,H3.o.2.2.1,H3.o.2.2.2.1,co.1,m+1,_,_,_,cd,hdn,HB.o.2.2.1,hdx⟩
    go_wp2;go_roundg (left N3)
    case measure=>omega
    case rel=>exact ⟨K3,D3,st3,N3,uL _,H4.o⟩
  have d1:qlt k n=false:=zm;have dr:decide (k<n)=false:=zm;obtain rfl:k=n:=zj;have hag:=NP wr hn A.o.1 (HW.o.2.2.2.mono A.o.2.1) (fun r hr=>by have:=A.o.2.2.1.D4 hr;omega)
  have HA:Aside (q8 gd B k bm K1 st1 [] wr/\Below B w wr/\r9 k i G K1 D1 st1 []/\(∀r,r<k->∀x∈lX (K r),x∈lX (K1 r))/\(∀r,r<k->∀x∈G,x∈lX (K1 r))/\Dd k K st k K1 st1):=⟨A.o.1,A.o.2.1,A.o.2.2.1,A.o.2.2.2.1,A.o.2.2.2.2.1 hn,A.o.2.2.2.2.2⟩
  obtain ⟨u0,bI⟩:=za wr;subst bI;go_wp2_with fail;refine hag.mono ?_;rintro e w2 ⟨z,rfl,HZ⟩
  have hal:QY k K1:=fun r hr x=>⟨fun q=>HA.o.2.2.2.2.1 0 zj x (HA.o.2.2.1.G5.sub r hr x q),fun q=>HA.o.2.2.2.2.1 r hr x (HA.o.2.2.1.G5.sub 0 zj x q)⟩
  obtain rfl:z=true:=HZ.o.1 hal;go_wp2;go_ret;obtain ⟨_,_,_,_,_,_,_,_,hmz⟩:=HA.o.1;exact ⟨K1,D1,st1,rfl,⟨_,_,_,_,_,_,_,_,hmz.later HZ.o.2⟩,HA.o.2.1.trans (HZ.o.2.mono hmz.l9),HA.o.2.2.1,HA.o.2.2.2.1,HA.o.2.2.2.2⟩
abbrev zcB:=Nat×Nat×Bool×(Int×Int×Int×Int)×List OpX
def zbw(x:nO):zcB:=(x.1,x.2.1,x.2.2.1,(x.2.2.2.1 0,x.2.2.2.1 1,x.2.2.2.1 2,x.2.2.2.1 3),Hf x)
structure zdx (K L:qH) (s t:qD) (N M:qJ):Prop where
 GC:∀r,r<3->∀j,j<4->K r j=L r j
 B6:∀r,r<3->s r=t r
 D9:N.map zbw=M.map zbw
theorem VO{A}{T}{i n}{x}{a a'}(h:FN A T i n x a)(h':FN A T i n x a'):a=a':=by
 rcases h with ⟨q,h⟩ | ⟨q1,q2,q3,q4,h⟩<;>rcases h' with ⟨k,h'⟩ | ⟨k1,k2,k3,k4,h'⟩
 ·exact h.one h'
 ·omega
 ·omega
 rw [h,h']
section
variable {K L K' L':qH} {s t s' t':qD} {N M N' M':qJ}
def WfM(K:qH)(N:qJ):Prop:=(∀q,q<3->u9 (K q))/\∀x∈N,x.1<3/\x.2.1<3
theorem AS{a}{R}(h:∀q,q<3->u9 (K q))(hR:u9 R):∀q,q<3->u9 (lR K a R q):=fun q hq=>by
 grind [lT,lP]
end
end
section
open RowKit Lib Go.Sort Maps Shelf
open scoped Classical
def OP:Ren:=⟨fun | 41=>96 | n=>n,fun | 4=>4 | 22=>54 | 23=>149 | n=>n,fun n=>n⟩
theorem Bw:SlLaysE0.n41 prog OP where
 mixed:=zk
 f41:=⟨ "slices.Clone[[]concordat/mesh.Note,concordat/mesh.Note]",zk,func96.trans qk⟩
 t4:=underlying4
 a4:=isAgg4
 z4:=sizeOf4
 v4:=zeroValue4
 t22:=underlying54
 a22:=isAgg54
 z22:=sizeOf54
 v22:=zeroValue54
theorem Ik(w)(b off c)(xs)(hn:xs.length<=1000)(hc:∀j u,(mP nX xs)[j]? =some u->w.cell? (qA b (off+j))=some u):
  qC 96 #[.slice (some (qA b off)) xs.length c] w fun e w'=>∃v',e= .returned v'/\w'.ownsRow w.heap.size 149 8 v' xs.length (mP nX xs)/\v'≠qE/\qL w w':=by
 obtain ⟨i0,hi,aD,aw,aH⟩:=info_parts Ro;exact AnyE.slices_Clone Bw i0 _ 8 80 hi aD aw aH rfl zj sizeOf149 b off xs.length c (mP nX xs) w (mu mj xs) zB zj hc (sC CM xs)
theorem Ky(w):qC 96 #[qE] w fun e w'=>e= .returned qE/\w'=w:=
 AnyE.slices_Clone_nil Bw 0 0 w
structure X6 (w wr:qW) (N:qJ) (g k:Nat):Prop where
 m8:qL w wr
 F5:w.heap.size<=g
 block:∃cur,wr.heap[g]? =some (.cells cur 149 (0,0))/\∀j x,k<=j->N[j]? =some x->cur[j*8+7]? =some (AZ x)
theorem X6.later{w wr w'}{N}{g k}(h:X6 w wr N g k)(hb:qL wr w'):X6 w w' N g k:=by
 obtain ⟨cur,h1,h2⟩:=h.block;exact ⟨zi h.m8 hb,h.F5,cur,(hb.block g (uK.1 h1).1).trans h1,h2⟩
theorem X6.cell{w wr}{N}{g k}(h:X6 w wr N g k){x}(hx:N[k]? =some x):wr.cell? (qA g (k*8+7))=some (AZ x)/\∀o,wr.frozen? (qA g o)=false:=by
 obtain ⟨cur,h1,h2⟩:=h.block;refine ⟨?_,fun o=>by simp [World.frozen?,h1]⟩;unfold World.cell?
 grind
theorem X6.set{w wr}{N}{g k}(h:X6 w wr N g k)(v):X6 w (wr.setCell (qA g (k*8+7)) v) N g (k+1):=by
 obtain ⟨cur,h1,h2⟩:=h.block;have hk:=lZ g [v] (k*8+7) wr;refine ⟨h.m8.trans (hk.m8 h.m8.size (fun j e=>by have e':=e;rw [e'];exact h.F5)),h.F5,_,heap_setCell_same wr g (k*8+7) _ _ _ h1,fun j x hj hx=> ?_⟩
 grind
theorem Ka{gd}{B}{n bm}{K}{st}{N}(w)(h:q8 gd B n bm K st N w)(hN:N.length<=30)(hl:∀x∈N,(Hf x).length<=1000):
  qC 55 #[qP bm] w fun e w'=>∃ao cap,e= .returned (.slice ao N.length cap)/\Aside (qL w w'):=by
 obtain ⟨ow,pv,fv,bp,br,d,dv,c,hm⟩:=h;have m1:=hm.C9.c1;have HM:Aside (n9 gd B w ow n bm pv fv bp br d dv c K st N):=hm;have hfly:=hm.L5
 rcases hfly.2 with ⟨rfl,h0⟩ | ⟨fg,fc,cur,rfl,_⟩
 ·have dQ:=Ky w;rw [h0];go_enter func55,ntmps55;go_wp2_with fail;refine dQ.mono ?_;rintro e w1 ⟨rfl,rfl⟩;go_wp2;refine wp_loop_rounds 1 ?_;rw [rounds_succ];go_wp2;go_ret;exact ⟨_,_,rfl,uM _ _⟩
 have dQ:=Ik w fg 0 fc N zj (fun j u hj=>by
  have eN:=(uI.1 hj).1
  rw [mu mj] at eN
  rw [Zc,hfly.cellAt j eN,hj])
 go_enter func55,ntmps55;go_wp2_with fail;refine dQ.mono ?_;rintro e w1 ⟨v1,rfl,hrow,hne,hb1⟩
 rcases hrow.2 with ⟨q,_⟩ | ⟨g,cap,cur1,rfl,hg1,hg2,hg3,hg4,hg5,hg6⟩
 ·exact absurd q hne
 have H1:Aside (X6 w w1 N g 0):=⟨hb1,hg1,cur1,hg2,fun j x _ hx=>by
  have hj:=(uI.1 hx).1
  have h7:(mP nX N)[j*8+7]? =some (AZ x):=(mi (enc:=nX) mj hx zj).trans rfl
  rw [<-hg6,Yj] at h7
  split at h7
  ·rw [<-YZ];exact h7
  ·cases h7⟩
 go_wp2;go_loopg [12] N.length (fun kx s12 wr=>∃k:Nat,s12=qN k/\k<=N.length/\N.length - k<=kx/\Aside (X6 w wr N g k))
 case atStart=>exact ⟨0,rfl,uW _,uL _,H1.o⟩
 case round=>
  obtain ⟨k,rfl,hk,aY,A⟩:=hrel;by_cases hlt:k<N.length
  ·have d1:qlt k N.length=true:=by simp;omega
   have dr:decide (k<N.length)=true:=zm;have wk:((k:Int)).toNat=k:=zj;have pk:(0:Int)<=(k:Int):=zj;have bk:(k:Int)<(N.length:Int):=zj
   obtain ⟨⟨x1,x2,x3,x4,x5,x6,x7⟩,hx⟩:∃x,Aside (N[k]? =some x):=⟨N[k],uJ hlt⟩
   obtain ⟨r7,rf⟩:=A.o.cell hx.o;have dL:=(HM.o.D9 _ (uP hx.o)).ops.later A.o.m8;have hlx:=hl _ (uP hx.o);unfold AZ at r7 dL;dsimp only at r7 dL hlx
   have dQ:qC 97 #[.slice x5 x7.length x6] wr fun e w'=>∃ao' cp',e= .returned (.slice ao' x7.length cp')/\Aside (qL wr w'):=by
    rcases dL with ⟨q,rfl⟩ | ⟨b,o,cp,q,hc⟩
    ·cases q
     refine (CD wr).mono ?_;rintro e w' ⟨rfl,rfl⟩;exact ⟨none,0,rfl,uM _ _⟩
    cases q
    refine (AF wr b o x6 x7 hlx hc).mono ?_;rintro e w' ⟨v',rfl,hr,_,hb⟩;obtain ⟨a',c',rfl⟩:=mC hr;exact ⟨a',c',rfl,hb⟩
   have HA:Aside (X6 w wr N g k):=A.o;obtain ⟨u0,bI⟩:=za wr;subst bI;go_wp2_with fail;refine dQ.mono ?_;rintro e w2 ⟨ao',cp',rfl,HB⟩;have h2:=HA.o.later HB.o;obtain ⟨r7,rf⟩:=h2.cell hx.o;have H3:Aside (X6 w (w2.setCell (qA g (k*8+7)) (.slice ao' x7.length cp')) N g (k+1)):=h2.set _;go_wp2;go_roundg (N.length - (k+1))
   case measure=>omega
   case rel=>exact ⟨k+1,zN,zj,uL _,H3.o⟩
  have d1:qlt k N.length=false:=zm;have dr:decide (k<N.length)=false:=zm;have HA:Aside (qL w wr):=A.o.m8;go_wp2;go_ret;exact ⟨_,_,rfl,HA.o⟩

end