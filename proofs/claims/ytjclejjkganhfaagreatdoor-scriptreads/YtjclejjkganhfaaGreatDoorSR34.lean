import Derived.Test.YtjclejjkganhfaaGreatDoorSR31
import Derived.Test.YtjclejjkganhfaaGreatDoorSR32
import Derived.Test.YtjclejjkganhfaaGreatDoorSR33
import Derived.ChangeMaps5
set_option linter.unusedSimpArgs false
set_option linter.unusedVariables false
set_option maxRecDepth 100000
set_option maxHeartbeats 64000000
namespace Go.Proofs.YtjclejjkganhfaaGreatDoor
open Go.Proofs.Tryz
section
open RowKit Lib Go.Sort Maps
open scoped Classical
theorem Sn(g n cap k)(w)(h:k<=cap):(Instr.slice 54 (.slice (some ⟨g,0,none⟩) n cap) none (some (.int .i64 (k:Int))) none).run prog w= .ok (.slice (some ⟨g,0,none⟩) k cap) w:=by
 exact km8
theorem Tm(g n cap k)(h:k+1<=n)(hc:n<=cap):∃a:Addr,(k+1<cap->a=⟨g,(k+1)*8,none⟩)/\∀w:World,(Instr.slice 54 (.slice (some ⟨g,0,none⟩) n cap) (some (.int .i64 ((k:Int)+1))) none none).run prog w= .ok (.slice (some a) (n - (k+1)) (cap - (k+1))) w:=by
 have h1:(k:Int)+1<=(n:Int):=zj;have h2:(n:Int)<=(cap:Int):=zj;have h0:(0:Int)<=(k:Int)+1:=zj;have tk:((k:Int)+1).toNat=k+1:=zj;by_cases e:k+1=cap
 ·refine ⟨⟨g,0,none⟩,fun q=>zj,fun w=> ?_⟩;subst e;have en:n=k+1:=zj;subst en;go_simp
 have e1:¬(cap=k+1):=fun q=>e q.symm
 refine ⟨⟨g,(k+1)*8,none⟩,fun _=>rfl,fun w=> ?_⟩;go_simp
theorem WO(g n cap k:Nat)(h:k+1<=n)(hc:n<=cap):∃V:Value,∀w:World,(Instr.slice 54 (.slice (some ⟨g,0,none⟩) n cap) (some (.int .i64 (k:Int))) (some (.int .i64 ((k:Int)+1))) (some (.int .i64 (n:Int)))).run prog w= .ok V w:=by
 have h1:(k:Int)+1<=(n:Int):=zj;have h2:(n:Int)<=(cap:Int):=zj;have h0:(0:Int)<=(k:Int):=zj;have h3:(k:Int)<=(k:Int)+1:=zj;have tk:((k:Int)+1).toNat=k+1:=zj;have e3:¬(n=k):=zj;refine ⟨.slice (some ⟨g,k*8,none⟩) 1 (n - k),fun w=> ?_⟩;go_simp
theorem Xt(g m cap)(hc:m+1<=cap)(w):(Instr.slice 54 (.slice (some ⟨g,0,none⟩) m cap) (some (.int .i64 (m:Int))) (some (.int .i64 ((m:Int)+1))) none).run prog w= .ok (.slice (some ⟨g,m*8,none⟩) 1 (cap - m)) w:=by
 have h1:(m:Int)+1<=(cap:Int):=zj;have h0:(0:Int)<=(m:Int):=zj;have h3:(m:Int)<=(m:Int)+1:=zj;have tk:((m:Int)+1).toNat=m+1:=zj;have e3:¬(cap=m):=zj;go_simp
theorem zbG:∀w:World,(zeroValue 149).run prog w= .ok (.agg #[.int .i64 0,.int .i64 0,.bool false,.int .i64 0,.int .i64 0,.int .i64 0,.int .i64 0,.slice none 0 0]) w:=fun w=>by
 go_simp
theorem zbh:(Value.agg #[.int .i64 0,.int .i64 0,.bool false,.int .i64 0,.int .i64 0,.int .i64 0,.int .i64 0,.slice none 0 0]).cells.size=8:=rfl
theorem Vy:(Builtin.zeroCells (Value.agg #[.int .i64 0,.int .i64 0,.bool false,.int .i64 0,.int .i64 0,.int .i64 0,.int .i64 0,.slice none 0 0]).cells 1).toList= [.int .i64 0,.int .i64 0,.bool false,.int .i64 0,.int .i64 0,.int .i64 0,.int .i64 0,.slice none 0 0]:=by
 simp [Builtin.zeroCells,Value.cells];rfl
theorem Tw{N}{k}(hk:k<N.length){cur:Array Value}{cap}(hc:N.length<=cap)(hcs:cur.size=cap*8)(ht:cur.toList.take (N.length*8)=mP nX N):
  mP nX (N.take k)=cur.toList.take (k*8)/\(cur.toList.take (k*8)++mP nX (N.drop (k+1))++cur.toList.drop (k*8+(mP nX (N.drop (k+1))).length)).length=cap*8/\∀j u,(mP nX (N.drop (k+1)))[j]? =some u->cur[(k+1)*8+j]? =some u:=by
 have hl:(mP nX (N.drop (k+1))).length=(N.length - (k+1))*8:=by rw [mu mj,ZH]
 have dQ:cur.toList.length=cap*8:=by rw [ZK,hcs]
 refine ⟨?_,?_,fun j u hj=> ?_⟩
 ·rw [<-Bl mj N k zj,<-ht,List.take_take];congr 1;omega
 ·grind
 have hj':=hj;rw [<-rQ mj N (k+1) zj,<-ht,ZO,Yj] at hj
 simp_all
theorem zac{B:Nat}(w:World)(v:Value)(N:List nO)(k:Nat)(hrow:w.ownsRow B 149 8 v N.length (mP nX N))(hk:k<N.length)(hlen:N.length<=1000):
  Calls prog 115 #[v,.int .i64 (k:Int),.int .i64 ((k:Int)+1)] w fun e w'=>∃v',e= .returned v'/\Aside (w'.ownsRow B 149 8 v' (N.eraseIdx k).length (mP nX (N.eraseIdx k))/\m7 (fun j=>some j=v.ownBlock) w w'/\v'.ownBlock=v.ownBlock):=by
 obtain ⟨i0,hi,aD,aw,aH⟩:=info_parts Ro
 rcases hrow.2 with ⟨_,q⟩ | ⟨g,cap,cur,rfl,hBg,hg,hnc,hcm,hcs,htake⟩
 ·omega
 obtain ⟨r1,r2,r3⟩:=Tw hk hnc hcs htake;obtain ⟨V1,aI⟩:=WO g N.length cap k zj hnc
 have aJ:=fun W=>Sn g N.length cap k W zj
 obtain ⟨a3,ha3,gN⟩:=Tm g N.length cap k zj hnc
 obtain ⟨m,hm⟩:∃m,N.length=m+1:=⟨N.length - 1,zj⟩
 have ae:=run_append_room (P:=prog) w.drew 54 54 149 i0 underlying54 hi g k cap cur hg a3 (N.length - (k+1)) (cap - (k+1)) (mP nX (N.drop (k+1))) (by rw [mu mj,ZH,aw]) (fun j u hj=>by
   have eN:=(uI.1 hj).1
   rw [mu mj,ZH] at eN
   rw [ha3 zj,Addr.add_lit]
   show w.cell? ⟨g,(k+1)*8+j,none⟩=some u
   have:=r3 j u hj
   unfold World.cell?
   dsimp only
   rw [hg]
   exact this) (sC CM _) zj (by rw [aw,mu mj,ZH,hcs];omega)
 rw [aw] at ae;obtain ⟨X,hX⟩:=ze (w.drew.setRow g (cur.toList.take (k*8)++mP nX (N.drop (k+1))++cur.toList.drop (k*8+(mP nX (N.drop (k+1))).length)).toArray);rw [<-hX.o] at ae;have em:k+(N.length - (k+1))=m:=zj;rw [em] at ae
 have hgX:X.heap[g]? =some (.cells (cur.toList.take (k*8)++mP nX (N.drop (k+1))++cur.toList.drop (k*8+(mP nX (N.drop (k+1))).length)).toArray 149 (0,0)):=by rw [hX.o];exact setRow_heap w.drew g cur _ _ _ hg
 have hkX:m7 (fun j=>j=g) w X:=by rw [hX.o];exact ⟨rfl,rfl,rfl,zr,fun j _ hj=>setRow_other w.drew g j _ hj⟩
 have i7:=fun W=>Xt g m cap zj W
 have hmc:(m+1)*8<=cap*8:=zj
 have hclr:∀ty,(Builtin.clear_ #[54] ty #[.slice (some ⟨g,m*8,none⟩) 1 (cap - m)]).run prog X= .ok (.tuple #[]) (X.setCells g (m*8) [.int .i64 0,.int .i64 0,.bool false,.int .i64 0,.int .i64 0,.int .i64 0,.int .i64 0,.slice none 0 0]):=fun ty=>by
  have h:=pQ (P:=prog) X 54 149 ty _ underlying54 zbG g (m*8) 1 (cap - m) zj (by rw [Vy];simp [Value.oneCell']) (fun j hj=>by
   rw [zbh] at hj
   unfold World.cell?
   dsimp only
   rw [hgX]
   simp only [List.getElem?_toArray]
   rw [Yu]
   exact ⟨_,uJ (by rw [r2];omega)⟩) (fun j hj=>by simp [World.frozen?,hgX])
  rw [Vy] at h;exact h
 have HF:Aside ((X.setCells g (m*8) [.int .i64 0,.int .i64 0,.bool false,.int .i64 0,.int .i64 0,.int .i64 0,.int .i64 0,.slice none 0 0]).ownsRow B 149 8 (.slice (some ⟨g,0,none⟩) m cap) (N.eraseIdx k).length (mP nX (N.eraseIdx k))/\m7 (fun j=>some j=some g) w (X.setCells g (m*8) [.int .i64 0,.int .i64 0,.bool false,.int .i64 0,.int .i64 0,.int .i64 0,.int .i64 0,.slice none 0 0])):=by
  have hel:(N.eraseIdx k).length=m:=ur
  have hef:mP nX (N.eraseIdx k)=cur.toList.take (k*8)++mP nX (N.drop (k+1)):=by
   rw [List.eraseIdx_eq_take_drop_succ,<-r1];simp [mP]
  have hl:(cur.toList.take (k*8)++mP nX (N.drop (k+1))).length=m*8:=by
   rw [<-hef,mu mj,hel]
  refine ⟨?_,hkX.then (lZ g _ (m*8) X) (fun j _ e=>e) |>.mono (fun j _ e=>by have e':j=g:=e;rw [e'])⟩;rw [hel,hef];refine ⟨hl,.inr ⟨g,cap,_,rfl,hBg,mF g _ (m*8) X _ _ hgX,zj,hcm,?_,?_⟩⟩
  ·rw [pP];simpa using r2
  obtain ⟨C1,C2,hC,hC1⟩:∃C1 C2,cur.toList.drop (k*8+(mP nX (N.drop (k+1))).length)=C1++C2/\C1.length=8:=by
   refine ⟨(cur.toList.drop (k*8+(mP nX (N.drop (k+1))).length)).take 8,(cur.toList.drop (k*8+(mP nX (N.drop (k+1))).length)).drop 8,(Zx 8 _).symm,?_⟩;rw [Zr,ZH,ZK,hcs,mu mj,ZH];omega
  have ho:=oD [.int .i64 0,.int .i64 0,.bool false,.int .i64 0,.int .i64 0,.int .i64 0,.int .i64 0,.slice none 0 0] (cur.toList.take (k*8)++mP nX (N.drop (k+1))) C1 C2 (cur.toList.take (k*8)++mP nX (N.drop (k+1))++cur.toList.drop (k*8+(mP nX (N.drop (k+1))).length)).toArray (by rw [hC];simp) (by rw [hC1];rfl);rw [hl] at ho;rw [ho,Zo,Yk (Nat.le_of_eq hl.symm),Zk (Nat.le_of_eq hl)]
 have dne:((k:Int)==(k:Int)+1)=false:=xJ;rw [hm] at aI aJ gN ae;rw [show ((m+1:Nat):Int)=(m:Int)+1 by omega] at aI;rw [hm];rw [show m+1 - (k+1)=m - k by omega] at gN ae;clear hrow hBg hg hnc hcm hcs htake r1 r2 r3 ha3 hgX hkX hmc em hm hlen hk;go_enter func115,ntmps115;go_upto_region 5 with fail;refine lV (S:=(fun _=>True)) zk trivial (fun aa=> ?_);refine tk 0 aa ?_ (y:=ty zl);refine tk 1 aa ?_ (y:=ty zl);refine tk 2 aa ?_ (y:=ty zl);refine tk 3 aa ?_ (y:=ty zl);refine tk 4 aa ?_ (y:=ty zl);refine tk 5 aa ?_ (y:=ty zl);refine an (i:=6) zk rfl (fun kQ hK=> ?_);simp only [ZR,ZU,ZW];refine Lib.wp_append_run _ _ _ _ _ rfl (.slice (some ⟨g,0,none⟩) k cap) (.slice (some a3) (m - k) (cap - (k+1))) ?ahs ?ahx _ X ae ?_
 case ahs=>rfl
 case ahx=>rfl
 refine hK _ _ trivial ?_;clear hK kQ;refine qn ?_;refine an (i:=7) zk rfl (fun kQ hK=> ?_);go_simp;refine hK _ _ trivial ?_;clear hK kQ;refine wpAnyH_done zk ?_ _;refine qn ?_;clear ae aI aJ gN;go_wp2;go_ret;exact ⟨_,rfl,HF.o.1,HF.o.2,rfl⟩
def zbm(gd:Nat->Option Obj)(B n bm:Nat)(pv:Value)(bp br d:Nat->Nat)(dv:Nat->Value)(c:Nat->Nat->Nat)(K:qH)(st:qD)(N:qJ)(k:Nat)(x:nO)(w w':qW):Prop:=N[k]? =some x/\∃ow' fv',n9 gd B w' ow' n bm pv fv' bp br d dv c K st (N.eraseIdx k)/\P5 w' ow' n x/\Below B w w'
theorem DE{B}{w:qW}{fo}{fc}{N}(h:w.ownsRow B 149 8 (.slice fo N.length fc) N.length (mP nX N)){k}{x}(hx:N[k]? =some x):∃blk off,fo=some (qA blk off)/\∀c u,(nX x)[c]? =some u->w.cell? (qA blk (off+k*8+c))=some u:=(zaY mj h).e mj hx
theorem Jm{gd}{B}{ad}{ow}{n bm}{pv fv}{bp br d}{dv}{c}{K}{st}{N}(w)(p9)(h:n9 gd B w ow n bm pv fv bp br d dv c K st N)(hE:E6 B ad w)(hN:N.length<=30)(ho: -9223372036854775808<=p9/\p9<=9223372036854775807):
  qC 87 #[qP bm,qI p9] w fun e w'=>(¬(0<=p9/\p9<(N.length:Int))/\e= .returned (.tuple #[.agg #[qI 0,qI 0,.bool false,qI 0,qI 0,qI 0,qI 0,qE],eV ad 6])/\Aside (qL w w'))\/(∃(k:Nat) (x:nO),p9=(k:Int)/\k<N.length/\e=qT #[VD x,.nilIface]/\Aside (zbm gd B n bm pv bp br d dv c K st N k x w w')):=by
 obtain ⟨S,hS⟩:=ze w.heap.size;obtain ⟨U,hU⟩:=ze (w.alloc (.cells #[qI 0,qI 0,.bool false,qI 0,qI 0,qI 0,qI 0,qE] 149));have ah:qL w U:=yB
 have hSc:U.heap[S]? =some (.cells #[qI 0,qI 0,.bool false,qI 0,qI 0,qI 0,qI 0,qE] 149 (0,0)):=by rw [hU.o,hS.o];exact heap_alloc_new w _
 have dN:=h.later ah;obtain ⟨fo,fc,hfv⟩:=mC h.L5;subst hfv;have m1:=dN.C9.c1;have jg:=Fb U p9 dN.C9 ho
 have HM:Aside (n9 gd B w ow n bm pv (.slice fo N.length fc) bp br d dv c K st N/\E6 B ad w/\n9 gd B U ow n bm pv (.slice fo N.length fc) bp br d dv c K st N/\qL w U/\U.heap[S]? =some (.cells #[qI 0,qI 0,.bool false,qI 0,qI 0,qI 0,qI 0,qE] 149 (0,0))):=⟨h,hE,dN,ah,hSc⟩
 have en:=(hE.later ah).t.G3.c5
 have lowE:5<S:=by have h1:=hE.t.G3.low;have h2:=hE.t.G3.size;rw [hS.o];show _<_;omega
 have HL:Aside (5<S):=lowE;by_cases hin:0<=p9/\p9<(N.length:Int)
 ·obtain ⟨k,rfl⟩:∃k:Nat,p9=(k:Int):=⟨p9.toNat,zj⟩
  have hk:k<N.length:=zj;rw [decide_eq_true hin] at jg
  obtain ⟨⟨x1,x2,x3,x4,x5,x6,x7⟩,hx⟩:∃x,Aside (N[k]? =some x):=⟨N[k],uJ hk⟩
  obtain ⟨x,b9⟩:∃x:nO,Aside (x=(x1,x2,x3,x4,x5,x6,x7)):=⟨_,rfl⟩
  obtain ⟨blk,off,rfl,hc⟩:=DE HM.o.2.2.1.L5 hx.o;have r0:=hc 0 _ rfl;have r1:=hc 1 _ rfl;have r2:=hc 2 _ rfl;have r3:=hc 3 _ rfl;have r4:=hc 4 _ rfl;have r5:=hc 5 _ rfl;have r6:=hc 6 _ rfl;have r7:=hc 7 _ rfl;simp only [ZC] at r0;dsimp only at r0 r1 r2 r3 r4 r5 r6 r7;unfold AZ at r7;dsimp only at r7;have wk:((k:Int)).toNat=k:=zj;obtain ⟨P,hP⟩:=ze U.heap.size;obtain ⟨V,hV⟩:=ze (U.alloc (.cells #[qN x1,qN x2,.bool x3,qI (x4 0),qI (x4 1),qI (x4 2),qI (x4 3),.slice x5 x7.length x6] 149))
  have ai:qL U V:=by rw [hV.o];exact zh U _
  have hmV:=HM.o.2.2.1.later ai
  have XV:F8 V P x:=by rw [hV.o,hP.o,b9.o];exact F8.F5 U (x1,x2,x3,x4,x5,x6,x7)
  have fm:=(ai.block S ((uK.1 HM.o.2.2.2.2).1)).trans HM.o.2.2.2.2;have hdel:=zac V (.slice (some (qA blk off)) N.length fc) N k hmV.L5 hk zj;have v1:=hmV.C9.c1
  have HV:Aside (n9 gd B V ow n bm pv (.slice (some (qA blk off)) N.length fc) bp br d dv c K st N/\F8 V P x/\V.heap[S]? =some (.cells #[qI 0,qI 0,.bool false,qI 0,qI 0,qI 0,qI 0,qE] 149 (0,0))/\qL w V/\ow P=0/\ow S=0/\S≠P):=⟨hmV,XV,fm,zi HM.o.2.2.2.1 ai,HM.o.1.high P (by have:=HM.o.2.2.2.1.size;rw [hP.o];exact this),HM.o.1.high S xw,by have:=(uK.1 HM.o.2.2.2.2).1;rw [hP.o];omega⟩
  go_enter func87,ntmps87;go_upto_region 1 with fail;rw [<-hU.o,<-hS.o];go_wp2_with fail;refine jg.mono ?_;rintro e w1 ⟨rfl,rfl⟩;go_upto_region 4 with fail;rw [<-hV.o,<-hP.o];go_wp2_with fail;refine hdel.mono ?_;rintro e w3 ⟨v3,rfl,H3⟩
  have hnV:P5 V ow n x:=by
   have q:=HV.o.1.D9 _ (uP hx.o);rw [b9.o];exact q
  obtain ⟨jI,jN⟩:=HV.o.1.abK (v:=v3) (N':=N.eraseIdx k) H3.o.2.1 H3.o.1 (fun g hg=>.inl (by rw [<-H3.o.2.2];exact hg)) (fun y hy=>HV.o.1.D9 y (ZQ hy));have hnF:=HV.o.1.adE hnV jN (fun j q=>zj) (w2:=w3) 3
  have k0:∀j,j<V.heap.size->ow j=0->w3.heap[j]? =V.heap[j]? :=fun j hj e=>H3.o.2.1.block j hj (fun q=>by have:=HV.o.1.of j (Eq.symm q);omega)
  have eT:G0 w3 bm pv (.slice (some (qA blk off)) N.length fc):=(H3.o.2.1.block bm HV.o.1.C9.lt (fun q=>by have:=HV.o.1.of bm (Eq.symm q);rw [HV.o.1.om] at this;omega)).trans HV.o.1.C9;have n1:=eT.c1;have nf:=eT.fz 1;have X3:=HV.o.2.1.same (k0 P HV.o.2.1.lt HV.o.2.2.2.2.1);have Z3:=(k0 S (uK.1 HV.o.2.2.1).1 HV.o.2.2.2.2.2.1).trans HV.o.2.2.1;have X4:F8 (w3.setCell (qA bm 1) v3) P x:=X3.same (mW bm [v3] 1 w3 P (fun q=>by have:=HV.o.2.2.2.2.1;rw [q,HV.o.1.om] at this;omega));have Z4:(w3.setCell (qA bm 1) v3).heap[S]? =some (.cells #[qI 0,qI 0,.bool false,qI 0,qI 0,qI 0,qI 0,qE] 149 (0,0)):=(mW bm [v3] 1 w3 S (fun q=>by have:=HV.o.2.2.2.2.2.1;rw [q,HV.o.1.om] at this;omega)).trans Z3;obtain ⟨w4,cZ⟩:=ze (w3.setCell (qA bm 1) v3);rw [<-cZ.o] at jI jN hnF X4 Z4
  have H4:Aside (n9 gd B w4 (mU ow V w3 3) n bm pv v3 bp br d dv c K st (N.eraseIdx k)/\P5 w4 (mU ow V w3 3) n x/\Below B w w4/\mU ow V w3 3 S=0):=⟨jI,hnF,(HV.o.2.2.2.1.mono HM.o.1.l9).trans (HV.o.1.m8 jN (fun j e=>zj)),(ml (uK.1 HV.o.2.2.1).1).trans HV.o.2.2.2.2.2.1⟩
  rw [b9.o] at X4;obtain ⟨q0,q1,q2,q3,q4,q5,q6,q7,-⟩:=X4.cells;unfold AZ at q7;dsimp only at q0 q1 q2 q3 q4 q5 q6 q7;have z0:w4.cell? (qB S)=some (qI 0):=zT;have z1:w4.cell? (qA S 1)=some (qI 0):=zT;have z2:w4.cell? (qA S 2)=some (.bool false):=zT;have z3:w4.cell? (qA S 3)=some (qI 0):=zT;have z4:w4.cell? (qA S 4)=some (qI 0):=zT;have z5:w4.cell? (qA S 5)=some (qI 0):=zT;have z6:w4.cell? (qA S 6)=some (qI 0):=zT;have z7:w4.cell? (qA S 7)=some qE:=zT
  have zf:∀o,w4.frozen? (qA S o)=false:=fun o=>by simp [World.frozen?,Z4]
  obtain ⟨v3o,v3c,hv3⟩:=mC H3.o.1;subst hv3;go_upto_region 5 with fail;rw [<-cZ.o];go_wp2;(try simp only [Exit.inBlock,Exit.then]);refine bodyPost_ret (v:=.tuple #[.agg #[qN x1,qN x2,.bool x3,qI (x4 0),qI (x4 1),qI (x4 2),qI (x4 3),.slice x5 x7.length x6],.nilIface]) ?_ rfl (.inr ⟨k,x,rfl,hk,by rw [b9.o];rfl,?_⟩)
  ·exact kc1
  have dg:=lZ S [qN x1,qN x2,.bool x3,qI (x4 0),qI (x4 1),qI (x4 2),qI (x4 3),.slice x5 x7.length x6] 0 w4
  have fq:∀j,j=S->mU ow V w3 3 j=0:=fun j e=>by rw [e];exact H4.o.2.2.2
  refine ⟨by rw [b9.o];exact hx.o,_,_,H4.o.1.Z dg fq,⟨H4.o.2.1.R5,H4.o.2.1.to_,np H4.o.2.1.ops (fun g hg=>dg.block g (H4.o.1.H (by rw [H4.o.2.1.I8 g hg];omega)) (fun q=>by have:=fq g q;rw [H4.o.2.1.I8 g hg] at this;omega)),H4.o.2.1.I8⟩,H4.o.2.2.1.trans (dg.m8 H4.o.1.l9 (fun j e=>by have e':=e;have:=HM.o.1.l9;rw [e',hS.o];exact this))⟩
 rw [decide_eq_false hin] at jg;have SD:U.drew.cell? (qB 5)=some (.iface 437 (.pointer (some (ad 5)))):=en;obtain ⟨V,hV⟩:=ze U.drew
 have SV:V.cell? (qB 5)=some (.iface 437 (.pointer (some (ad 5)))):=by rw [hV.o];exact en
 have Z4:V.heap[S]? =some (.cells #[qI 0,qI 0,.bool false,qI 0,qI 0,qI 0,qI 0,qE] 149 (0,0)):=by rw [hV.o];exact hSc
 have SW:(V.setCells S 0 [qI 0,qI 0,.bool false,qI 0,qI 0,qI 0,qI 0,qE]).cell? (qB 5)=some (.iface 437 (.pointer (some (ad 5)))):=(uS (a:=(qB 5)) (mW S _ 0 V 5 un)).trans SV;have z0:V.cell? (qB S)=some (qI 0):=zT;have z1:V.cell? (qA S 1)=some (qI 0):=zT;have z2:V.cell? (qA S 2)=some (.bool false):=zT;have z3:V.cell? (qA S 3)=some (qI 0):=zT;have z4:V.cell? (qA S 4)=some (qI 0):=zT;have z5:V.cell? (qA S 5)=some (qI 0):=zT;have z6:V.cell? (qA S 6)=some (qI 0):=zT;have z7:V.cell? (qA S 7)=some qE:=zT
 have zf:∀o,V.frozen? (qA S o)=false:=fun o=>by simp [World.frozen?,Z4]
 have HIN:Aside (¬(0<=p9/\p9<(N.length:Int))):=hin;go_enter func87,ntmps87;go_upto_region 1 with fail;rw [<-hU.o,<-hS.o];go_wp2_with fail;refine jg.mono ?_;rintro e w1 ⟨rfl,rfl⟩;go_upto_region 2 with fail;refine lV (S:=(fun w'=>w'.cell? (qB 5)=some (.iface 437 (.pointer (some (ad 5)))))) zk SD (fun aa=> ?_);rw [<-hV.o];have aa:=SV;refine tk 0 aa ?_ (y:=ty zl);refine tk 1 aa ?_ (y:=ty xG);refine an (i:=2) zk rfl (fun kQ hK=> ?_);go_simp;refine hK _ _ SW ?_;refine qn ?_;refine an (i:=3) zk rfl (fun kQ hK=> ?_);go_simp;refine hK _ _ SW ?_;refine wpAnyH_done zk ?_ _;refine qn ?_;go_wp2;(try simp only [Exit.inBlock,Exit.then]);refine bodyPost_ret (v:=.tuple #[.agg #[qI 0,qI 0,.bool false,qI 0,qI 0,qI 0,qI 0,qE],.iface 437 (.pointer (some (ad 5)))]) ?_ rfl (.inl ⟨HIN.o,rfl,?_⟩)
 ·exact kc1
 have ai:qL w V:=by rw [hV.o];exact HM.o.2.2.2.1.drew
 exact mZ (b:=S) ai xw 0 [qI 0,qI 0,.bool false,qI 0,qI 0,qI 0,qI 0,qE]
theorem sN{gd}{B}{ad}{ow}{n bm}{pv fv}{bp br d}{dv}{c}{K}{st}{N}(w)(x)(h:n9 gd B w ow n bm pv fv bp br d dv c K st N)(hE:E6 B ad w)(ho:(-9223372036854775808<=x/\x<=9223372036854775807)):
  qC 85 #[qP bm,qI x] w fun e w'=>(¬(0<=x/\x<(n:Int))/\e=qT #[.pointer none,eV ad 2]/\Aside (qL w w'))\/(∃r:Nat,r<n/\x=(r:Int)/\e=qT #[qP (bp r),.nilIface]/\w'=w):=by
 have m0:=h.C9.c0;obtain ⟨po,pc,eF⟩:=mC h.K8;have eb:=hE.t.G3.P7.c1;by_cases hin:0<=x/\x<(n:Int)
 ·obtain ⟨r,rfl⟩:∃r:Nat,x=(r:Int):=⟨x.toNat,zj⟩
  have hr:r<n:=zj
  have hcell:∃g,po=some (qB g)/\w.cell? (qA g r)=some (qP (bp r)):=by
   have hp:=h.K8
   rcases hp.2 with ⟨_,q⟩ | ⟨g,cap,cur,q,_⟩
   ·omega
   rw [eF] at q
   cases q
   refine ⟨g,rfl,?_⟩;rw [eF] at hp;rw [hp.cellAt r zj,Bj bp hr]
  obtain ⟨g,rfl,r0⟩:=hcell;have d0:decide ((r:Int)<0)=false:=zr;have d1:decide ((n:Int)<=(r:Int))=false:=zm;have dr:decide (n<=r)=false:=zm;have wk:((r:Int)).toNat=r:=zj;have pk:(0:Int)<=(r:Int):=zj;have bk:(r:Int)<(n:Int):=zj;subst eF;clear h hE hin;go_enter func85,ntmps85;go_wp2;go_ret2;exact .inr ⟨r,hr,rfl,rfl,rfl⟩
 subst eF;have SD:w.drew.cell? (qB 0)=some (.iface 437 (.pointer (some (ad 1)))):=eb;have HI:Aside (¬(0<=x/\x<(n:Int))):=hin;clear h hE;by_cases h0:x<0
 ·have d0:decide (x<0)=true:=by simp;omega
  exact kb6
 have d0:decide (x<0)=false:=zm;have d1:decide ((n:Int)<=x)=true:=zm;exact kb6
theorem Iw{gd}{B}{ad}{ow}{n bm}{pv fv}{bp br d}{dv}{c}{K}{st}{N}(w)(r)(hr:r<n)(h:n9 gd B w ow n bm pv fv bp br d dv c K st N)(hE:E6 B ad w):
  qC 99 #[qP bm,qN r] w fun e w'=>e=qT #[qP (br r),.nilIface]/\w'=w:=by
 have hf:=h.W9;have hp:=sN w (r:Int) h hE ⟨zj,zj⟩;have p0:=(h.GA r hr).1.c0;go_enter func99,ntmps99;go_wp2_with fail;refine hp.mono ?_;rintro e w1 (⟨q,_⟩ | ⟨r',hr',hrr,rfl,rfl⟩)
 ·omega
 obtain rfl:r=r':=zj;go_wp2;go_ret2;exact ki2
def zdJ(n:Nat)(ad:qF)(K:qH)(st:qD)(N:qJ)(x y:Int)(v:Value)(K':qH)(st':qD)(N':qJ):Prop:=K'=K/\N'=N/\((¬(0<=x/\x<(n:Int))/\v=eV ad 2/\st'=st)\/∃r:Nat,r<n/\x=(r:Int)/\v=eV ad (IA (st r).2.1 y)/\st'=lR st r (BZ (st r) y))
def zcC(n:Nat)(ad:qF)(K:qH)(st:qD)(N:qJ)(x:Int)(v:Value)(K':qH)(st':qD)(N':qJ):Prop:=N'=N/\((¬(0<=x/\x<(n:Int))/\v=eV ad 2/\K'=K/\st'=st)\/∃r:Nat,r<n/\x=(r:Int)/\v= .nilIface/\Rm K K' st st' r)
def RD(gd:Nat->Option Obj)(B n bm i:Nat)(G:qX)(K:qH)(a:Nat->Prop)(Q:Value->(Nat->Rws)->(Nat->DSt)->List nO->Prop)(w:qW)(e:Ending)(w':qW):Prop:=∃(v:Value) (K':qH) (D':Nat->List OpX) (st':qD) (N':qJ),e= .returned v/\Aside (q8 gd B n bm K' st' N' w'/\Below B w w'/\r9 n i G K' D' st' N'/\N'.length<=30/\∀r,r<n->¬a r->∀x∈lX (K r),x∈lX (K' r))/\Aside (Q v K' st' N')
theorem Sm{gd}{B}{ad}{n bm}{K}{st}{N}{i}{G}{D}(w)(x y)(h:q8 gd B n bm K st N w)(hI:r9 n i G K D st N)(hN:N.length<=30)(hE:E6 B ad w)(hx:(-9223372036854775808<=x/\x<=9223372036854775807))(hy:(-9223372036854775808<=y/\y<=9223372036854775807)):
  qC 47 #[qP bm,qI x,qI y] w (RD gd B n bm i G K (fun _=>False) (zdJ n ad K st N x y) w):=by
 obtain ⟨ow,pv,fv,bp,br,d,dv,c,hm⟩:=h;have hp:=sN w x hm hE hx
 have HM:Aside (n9 gd B w ow n bm pv fv bp br d dv c K st N/\r9 n i G K D st N/\E6 B ad w):=⟨hm,hI,hE⟩
 go_enter func47,ntmps47;go_wp2_with fail;refine hp.mono ?_;rintro e w1 (⟨q,rfl,HB⟩ | ⟨r,hr,rfl,rfl,rfl⟩)
 ·rw [mO (show (2:Nat)≠0 by omega)];have HQ:Aside (¬(0<=x/\x<(n:Int))):=q;go_wp2;go_ret;exact ⟨_,K,D,st,N,rfl,⟨⟨_,_,_,_,_,_,_,_,HM.o.1.later HB.o⟩,HB.o.mono HM.o.1.l9,HM.o.2.1,hN,fun r _ _ x hx=>hx⟩,rfl,rfl,.inl ⟨HQ.o,by rw [mO (show (2:Nat)≠0 by omega)];rfl,rfl⟩⟩
 have p1:=(HM.o.1.GA r hr).1.c1;have fC:=HM.o.1.B6 r hr;obtain ⟨B0,off,waits,left⟩:DSt:=st r
 have hc:=fun (q:DSt) (e:st r=q)=>Xw (ad:=ad) (B:=q.1) (off:=q.2.1) (waits:=q.2.2.1) (left:=q.2.2.2) w1 y (by have:=fC.1;rw [e] at this;exact this) HM.o.2.2.j.O.aa3 hy.2
 have fE:=hc (st r) rfl;go_wp2_with fail;refine fE.mono ?_;rintro e w2 ⟨rfl,H2⟩;obtain ⟨lD,bR,hk2⟩:=HM.o.1.aaQ (st':=BZ (st r) y) hr ⟨dv r,H2.o.1,H2.o.2.mono (fun k _ e=>.inl e),fun g hg=>.inl hg⟩
 have HF:Aside (q8 gd B n bm K (lR st r (BZ (st r) y)) N w2/\Below B w1 w2):=⟨⟨_,_,_,_,_,_,_,_,bR⟩,HM.o.1.m8 hk2 (fun k e=>zj)⟩
 obtain ⟨ev,aR⟩:=ze (eV ad (IA (st r).2.1 y));rw [<-aR.o];go_wp2;go_ret;exact ⟨_,K,D,_,N,rfl,⟨HF.o.1,HF.o.2,HM.o.2.1.cut hr y,hN,fun r _ _ x hx=>hx⟩,rfl,rfl,.inr ⟨r,hr,rfl,aR.o,rfl⟩⟩
theorem PV{gd}{B}{ad}{n bm}{K}{st}{N}{i}{G}{D}(w)(x)(h:q8 gd B n bm K st N w)(hI:r9 n i G K D st N)(hN:N.length<=30)(hE:E6 B ad w)(hi:i<=155)(hx:(-9223372036854775808<=x/\x<=9223372036854775807)):
  qC 49 #[qP bm,qI x] w (RD gd B n bm i G K (fun r=>x=(r:Int)) (zcC n ad K st N x) w):=by
 obtain ⟨ow,pv,fv,bp,br,d,dv,c,hm⟩:=h;have hp:=sN w x hm hE hx
 have HM:Aside (n9 gd B w ow n bm pv fv bp br d dv c K st N/\r9 n i G K D st N/\E6 B ad w):=⟨hm,hI,hE⟩
 go_enter func49,ntmps49;go_wp2_with fail;refine hp.mono ?_;rintro e w1 (⟨q,rfl,HB⟩ | ⟨r,hr,rfl,rfl,rfl⟩)
 ·rw [mO (show (2:Nat)≠0 by omega)];have HQ:Aside (¬(0<=x/\x<(n:Int))):=q;go_wp2;go_ret;exact ⟨_,K,D,st,N,rfl,⟨⟨_,_,_,_,_,_,_,_,HM.o.1.later HB.o⟩,HB.o.mono HM.o.1.l9,HM.o.2.1,hN,fun r _ _ x hx=>hx⟩,rfl,.inl ⟨HQ.o,by rw [mO (show (2:Nat)≠0 by omega)];rfl,rfl,rfl⟩⟩
 have hb:=Pm w1 r HM.o.1 HM.o.2.1 HM.o.2.2 hr hi;go_wp2_with fail;refine hb.mono ?_;rintro e w2 ⟨K',st',rfl,H2⟩;go_wp2;go_ret;exact ⟨_,K',D,st',N,rfl,⟨H2.o.1,H2.o.2.1,H2.o.2.2.1,hN,fun q _ hq x hx=>by rw [H2.o.2.2.2.1 q (fun e=>hq (by rw [e]))];exact hx⟩,rfl,.inr ⟨r,hr,rfl,rfl,H2.o.2.2.2.2⟩⟩
def zce(gd:Nat->Option Obj)(B n bm i:Nat)(ad:qF)(G:qX)(K:qH)(st:qD)(N:qJ)(P:Nat->OpX->Nat->Prop)(x:Int)(w:qW)(e:Ending)(w':qW):Prop:=∃(y:OpX) (cd:Nat) (G':qX) (K':qH) (D':Nat->List OpX) (st':qD) (N':qJ),e=qT #[mJ y,eV ad cd]/\Aside (q8 gd B n bm K' st' N' w'/\Below B w w'/\r9 n (i+1) G' K' D' st' N'/\N'.length<=30/\(∀r,r<n->∀x∈lX (K r),x∈lX (K' r))/\((cd≠0/\G'=G)\/(cd=0/\G'=G++ [y]/\byO y=x/\0<=x/\x<(n:Int)))/\(∀r:Nat,x=(r:Int)->r<n->∃y0 cd0,P r y0 cd0/\(cd0=0->(st r).2.1=false->(st r).2.2.1=false->cd=0/\y=y0)/\DoX K K' st st' r y0 cd0 y cd)/\(∀r:Nat,x≠(r:Int)->K' r=K r/\st' r=st r)/\N'=N)
theorem zcD{gd}{B}{ad}{n bm}{K}{st}{N}{i}{G}{D}(w)(x)(y)(h:q8 gd B n bm K st N w)(hI:r9 n i G K D st N)(hN:N.length<=30)(hE:E6 B ad w)(hi:i<=155)(hx:(-9223372036854775808<=x/\x<=9223372036854775807))(P)(jD:∀(U:qW) (c0:Nat->Nat) (p b0 d0 r:Nat),r<n->x=(r:Int)->t8 U p b0 d0->B9 B U c0 b0 (r:Int) (K r)->E6 B ad U->qC 152 #[qP p,mJ y] U (TM ad U (K r) r (P r))):
  qC 81 #[qP bm,qI x,mJ y] w (zce gd B n bm i ad G K st N P x w):=by
 obtain ⟨ow,pv,fv,bp,br,d,dv,c,hm⟩:=h;obtain ⟨t,b,m,kd,nd,o,s,v⟩:=y;obtain ⟨S,hS⟩:=ze w.heap.size;obtain ⟨U,hU⟩:=ze ((w.alloc (qOc t b m kd nd o s v)).alloc qZc)
 have ah:qL w U:=by rw [hU.o];exact (zh w _).alloc zr _
 have O0:m6 U S (t,b,m,kd,nd,o,s,v):=by rw [hU.o,hS.o];exact (uR _ _ _ zr).trans (m6.F5 w (t,b,m,kd,nd,o,s,v))
 have Z0:m6 U (S+1) lQ:=by
  rw [hU.o,hS.o];have:=m6.F5 (w.alloc (qOc t b m kd nd o s v)) lQ;exact kc7
 have dN:=hm.later ah;have jp:=hE.later ah;have hp:=sN U x dN jp hx
 have HM:Aside (n9 gd B w ow n bm pv fv bp br d dv c K st N/\r9 n i G K D st N/\E6 B ad w/\n9 gd B U ow n bm pv fv bp br d dv c K st N/\qL w U/\m6 U S (t,b,m,kd,nd,o,s,v)/\m6 U (S+1) lQ/\E6 B ad U/\ow (S+1)=0/\B<=S):=⟨hm,hI,hE,dN,ah,O0,Z0,jp,hm.high _ (by rw [hS.o];omega),by rw [hS.o];exact hm.l9⟩
 have HNX:Aside (∀(U:qW) (c0:Nat->Nat) (p b0 d0 r:Nat),r<n->x=(r:Int)->t8 U p b0 d0->B9 B U c0 b0 (r:Int) (K r)->E6 B ad U->qC 152 #[qP p,mJ (t,b,m,kd,nd,o,s,v)] U (TM ad U (K r) r (P r))):=jD;unfold mJ;go_enter func81,ntmps81;go_upto_region 1 with fail;rw [<-hU.o,<-hS.o];go_wp2_with fail;refine hp.mono ?_;rintro e w1 (⟨q,rfl,HB⟩ | ⟨r,hr,rfl,rfl,rfl⟩)
 ·rw [mO (show (2:Nat)≠0 by omega)];have HQ:Aside (¬(0<=x/\x<(n:Int))):=q;have Z1:=HM.o.2.2.2.2.2.2.1.later HB.o;obtain ⟨z0,z1,z2,z3,z4,z5,z6,z7,zf⟩:=m6.ct Z1;go_wp2;(try simp only [Exit.inBlock,Exit.then]);refine bodyPost_ret (v:=.tuple #[.agg qZa,.iface 437 (.pointer (some (ad (2 - 1))))]) ?_ rfl ?_
  ·exact kc1
  have dg:=lZ (S+1) qZl 0 w1;have hm1:=HM.o.2.2.2.1.later HB.o;exact ⟨lQ,2,G,K,D,st,N,rfl,⟨_,_,_,_,_,_,_,_,hm1.Z dg (fun k e=>by have e':=e;rw [e'];exact HM.o.2.2.2.2.2.2.2.2.1)⟩,((HM.o.2.2.2.2.1.mono HM.o.1.l9).trans (HB.o.mono HM.o.2.2.2.1.l9)).trans (dg.m8 hm1.l9 (fun k e=>vz)),HM.o.2.1.up zj,hN,fun r _ x hx=>hx,.inl ⟨zj,rfl⟩,fun r e hr=>absurd ⟨zj,zj⟩ HQ.o,fun r _=>⟨rfl,rfl⟩,rfl⟩
 have hd:=zbj w1 r (t,b,m,kd,nd,o,s,v) HM.o.2.2.2.1 HM.o.2.1 HM.o.2.2.2.2.2.2.2.1 hr hi (P r) (fun W hW=>HNX.o W (c r) (bp r) (br r) (d r) r hr rfl ((HM.o.2.2.2.1.later hW).GA r hr).1 ((HM.o.2.2.2.1.later hW).GP r hr).1 (HM.o.2.2.2.2.2.2.2.1.later hW));unfold mJ at hd;obtain ⟨j0,j1,j2,j3,j4,j5,j6,j7,-⟩:=HM.o.2.2.2.2.2.1.cells;dsimp only at j0 j1 j2 j3 j4 j5 j6 j7;go_wp2_with fail;refine hd.mono ?_;rintro e w2 ⟨⟨t',b',m',kd',nd',o',s',v'⟩,cd,G',K',D',st',rfl,H2⟩;unfold mJ;dsimp only;obtain ⟨ow',pv',fv',bp',br',d',lD,c',bR,hlone⟩:=H2.o.1;have hSl:=HM.o.2.2.2.2.2.2.1.lt;have gT:=hlone (S+1) hSl HM.o.2.2.2.2.2.2.2.2.1;have Z2:m6 w2 (S+1) lQ:=gT.2.trans HM.o.2.2.2.2.2.2.1;obtain ⟨z0,z1,z2,z3,z4,z5,z6,z7,zf⟩:=m6.ct Z2
 have H3:Aside (n9 gd B w2 ow' n bm pv' fv' bp' br' d' lD c' K' st' N/\ow' (S+1)=0):=⟨bR,gT.1⟩
 obtain ⟨er,aB⟩:=ze (eV ad cd);rw [<-aB.o];go_wp2;(try simp only [Exit.inBlock,Exit.then]);refine bodyPost_ret (v:=.tuple #[.agg (qOa t' b' m' kd' nd' o' s' v'),er]) ?_ rfl ?_
 ·exact kc1
 have dg:=lZ (S+1) (qOl t' b' m' kd' nd' o' s' v') 0 w2;exact ⟨(t',b',m',kd',nd',o',s',v'),cd,G',K',D',st',N,by rw [<-aB.o];rfl,⟨_,_,_,_,_,_,_,_,H3.o.1.Z dg (fun k e=>by have e':=e;rw [e'];exact H3.o.2)⟩,((HM.o.2.2.2.2.1.mono HM.o.1.l9).trans H2.o.2.1).trans (dg.m8 H3.o.1.l9 (fun k e=>vz)),H2.o.2.2.1,hN,H2.o.2.2.2.1,H2.o.2.2.2.2.1.imp id (fun q=>⟨q.1,q.2.1,q.2.2,zj,zj⟩),fun r' e hr'=>by obtain rfl:r=r':=zj;obtain ⟨a1,a2,a3,a4,_,a6⟩:=H2.o.2.2.2.2.2;exact ⟨a1,a2,a3,a4,a6⟩,fun r' e=>by obtain ⟨_,_,_,_,a5,_⟩:=H2.o.2.2.2.2.2;exact a5 r' (fun q=>e (by rw [q])),rfl⟩
def DF(a b:Nat)(v:Nat->Int):nO:=(a,b,true,v,none,0,[])
def Wb(gd:Nat->Option Obj)(B n bm:Nat)(ad:qF)(K:qH)(st:qD)(N:qJ)(p9:Int)(w:qW)(e:Ending)(w':qW):Prop:=(¬(0<=p9/\p9<(N.length:Int))/\(∃t v,e= .returned (.iface t v)/\Value.iface t v=eV ad 6)/\Aside (q8 gd B n bm K st N w'/\Below B w w'))\/(∃k:Nat,p9=(k:Int)/\k<N.length/\e= .returned .nilIface/\Aside (q8 gd B n bm K st (N.eraseIdx k) w'/\Below B w w'))
theorem Sb{gd}{B}{ad}{n bm}{K}{st}{N}(w)(p9)(h:q8 gd B n bm K st N w)(hE:E6 B ad w)(hN:N.length<=30)(ho:(-9223372036854775808<=p9/\p9<=9223372036854775807)):
  qC 43 #[qP bm,qI p9] w (Wb gd B n bm ad K st N p9 w):=by
 obtain ⟨ow,pv,fv,bp,br,d,dv,c,hm⟩:=h;have ht:=Jm w p9 hm hE hN ho
 have HM:Aside (n9 gd B w ow n bm pv fv bp br d dv c K st N/\E6 B ad w):=⟨hm,hE⟩
 go_enter func43,ntmps43;go_wp2_with fail;refine ht.mono ?_;rintro e w1 (⟨q,rfl,HB⟩ | ⟨k,⟨x1,x2,x3,x4,x5,x6,x7⟩,rfl,hk,rfl,HT⟩)
 ·have HQ:Aside (¬(0<=p9/\p9<(N.length:Int))):=q;rw [mO (show (6:Nat)≠0 by omega)];go_wp2;go_ret;have hb:qL w (w1.alloc (.cells #[qI 0,qI 0,.bool false,qI 0,qI 0,qI 0,qI 0,qE] 149)):=HB.o.alloc HB.o.size _;exact .inl ⟨HQ.o,⟨_,_,rfl,(mO (show (6:Nat)≠0 by omega)).symm⟩,⟨_,_,_,_,_,_,_,_,HM.o.1.later hb⟩,hb.mono HM.o.1.l9⟩
 unfold VD AZ;dsimp only;go_wp2;go_ret;obtain ⟨_,ow',fv',hm',hn',hb'⟩:=HT.o;have hb:qL w1 (w1.alloc (.cells #[qN x1,qN x2,.bool x3,qI (x4 0),qI (x4 1),qI (x4 2),qI (x4 3),.slice x5 x7.length x6] 149)):=zh w1 _;exact .inr ⟨k,rfl,hk,rfl,⟨_,_,_,_,_,_,_,_,hm'.later hb⟩,hb'.trans (hb.mono hm'.l9)⟩
def za3(ad:qF)(N:qJ)(p9:Int)(v:Value)(N':qJ):Prop:=(¬(0<=p9/\p9<(N.length:Int))/\v=eV ad 6/\N'=N)\/∃(k:Nat) (x:nO),p9=(k:Int)/\N[k]? =some x/\((N.length<30/\v= .nilIface/\N'=N++ [x])\/(30<=N.length/\v=eV ad 8/\N'=N))
def UU(gd:Nat->Option Obj)(B n bm:Nat)(ad:qF)(K:qH)(st:qD)(N:qJ)(p9:Int)(w:qW)(e:Ending)(w':qW):Prop:=∃(v:Value) (N':qJ),e= .returned v/\Aside (q8 gd B n bm K st N' w'/\Below B w w'/\N'.length<=30/\∀x∈N',x∈N)/\Aside (za3 ad N p9 v N')
theorem PS{gd}{B}{ad}{n bm}{K}{st}{N}(w)(p9)(h:q8 gd B n bm K st N w)(hE:E6 B ad w)(hN:N.length<=30)(ho:(-9223372036854775808<=p9/\p9<=9223372036854775807)):
  qC 45 #[qP bm,qI p9] w (UU gd B n bm ad K st N p9 w):=by
 obtain ⟨ow,pv,fv,bp,br,d,dv,c,hm⟩:=h;obtain ⟨fo,fc,hfv⟩:=mC hm.L5;subst hfv;have m1:=hm.C9.c1;have en:=hE.t.G3.c5;have jg:=Fb w p9 hm.C9 ho
 have HM:Aside (n9 gd B w ow n bm pv (.slice fo N.length fc) bp br d dv c K st N/\E6 B ad w):=⟨hm,hE⟩
 by_cases hin:0<=p9/\p9<(N.length:Int)
 ·obtain ⟨k,rfl⟩:∃k:Nat,p9=(k:Int):=⟨p9.toNat,zj⟩
  have hk:k<N.length:=zj;rw [decide_eq_true hin] at jg
  obtain ⟨⟨x1,x2,x3,x4,x5,x6,x7⟩,hx⟩:∃x,Aside (N[k]? =some x):=⟨N[k],uJ hk⟩
  have fU:=ES w (x1,x2,x3,x4,x5,x6,x7) HM.o.1 HM.o.2 (HM.o.1.D9 _ (uP hx.o));unfold VD AZ at fU;dsimp only at fU;obtain ⟨blk,off,rfl,hc⟩:=DE HM.o.1.L5 hx.o;have r0:=hc 0 _ rfl;have r1:=hc 1 _ rfl;have r2:=hc 2 _ rfl;have r3:=hc 3 _ rfl;have r4:=hc 4 _ rfl;have r5:=hc 5 _ rfl;have r6:=hc 6 _ rfl;have r7:=hc 7 _ rfl;simp only [ZC] at r0;dsimp only at r0 r1 r2 r3 r4 r5 r6 r7;unfold AZ at r7;dsimp only at r7;have wk:((k:Int)).toNat=k:=zj;go_enter func45,ntmps45;go_wp2_with fail;refine jg.mono ?_;rintro e w1 ⟨rfl,rfl⟩;go_wp2_with fail;refine fU.mono ?_;rintro e w2 (⟨h30,rfl,HB⟩ | ⟨h30,rfl,HB⟩)
  ·rw [mO (show (8:Nat)≠0 by omega)];go_wp2;go_ret;exact ⟨_,N,rfl,⟨⟨_,_,_,_,_,_,_,_,HM.o.1.later HB.o⟩,HB.o.mono HM.o.1.l9,hN,fun x hx=>hx⟩,.inr ⟨k,_,rfl,hx.o,.inr ⟨h30,(mO (show (8:Nat)≠0 by omega)).symm,rfl⟩⟩⟩
  go_wp2;go_ret;obtain ⟨fv',ow',hm',hb'⟩:=HB.o;refine ⟨_,_,rfl,⟨⟨_,_,_,_,_,_,_,_,hm'⟩,hb',by rw [uQ];simp;omega,fun x cQ=> ?_⟩,.inr ⟨k,_,rfl,hx.o,.inl ⟨h30,rfl,rfl⟩⟩⟩
  rcases uV.1 cQ with q | q
  ·exact q
  rw [Zf.1 q];exact uP hx.o
 rw [decide_eq_false hin] at jg;have HQ:Aside (¬(0<=p9/\p9<(N.length:Int))):=hin;go_enter func45,ntmps45;go_wp2_with fail;refine jg.mono ?_;rintro e w1 ⟨rfl,rfl⟩;go_wp2;go_ret;exact ⟨_,N,rfl,⟨⟨_,_,_,_,_,_,_,_,HM.o.1⟩,uM _ _,hN,fun x hx=>hx⟩,.inl ⟨HQ.o,(mO (show (6:Nat)≠0 by omega)).symm,rfl⟩⟩
def Mp(n m:Nat)(x y:Int):Nat:=if (0<=x/\x<(n:Int))/\(0<=y/\y<(n:Int))/\x≠y then (if m<30 then 0 else 8) else 2
def zbn(gd:Nat->Option Obj)(B n bm:Nat)(ad:qF)(K:qH)(st:qD)(N:qJ)(x y:Int)(w:qW)(e:Ending)(w':qW):Prop:=∃(v:Value) (N':qJ),e= .returned v/\Aside (q8 gd B n bm K st N' w'/\Below B w w'/\((v= .nilIface/\N.length<30/\∃a b:Nat,a<n/\b<n/\a≠b/\x=(a:Int)/\y=(b:Int)/\N'=N++ [DF a b (oV (K a))])\/(N'=N/\¬((0<=x/\x<(n:Int))/\(0<=y/\y<(n:Int))/\x≠y/\N.length<30))))/\Aside (v=eV ad (Mp n N.length x y))
theorem PH{gd}{B}{ad}{n bm}{K}{st}{N}(w)(x y)(h:q8 gd B n bm K st N w)(hE:E6 B ad w)(hK:∀r,r<n->(lX (K r)).length<=1000)(hx:(-9223372036854775808<=x/\x<=9223372036854775807))(hy:(-9223372036854775808<=y/\y<=9223372036854775807)):
  qC 39 #[qP bm,qI x,qI y] w (zbn gd B n bm ad K st N x y w):=by
 obtain ⟨ow,pv,fv,bp,br,d,dv,c,hm⟩:=h;have hp:=sN w x hm hE hx
 have HM:Aside (n9 gd B w ow n bm pv fv bp br d dv c K st N/\E6 B ad w):=⟨hm,hE⟩
 go_enter func39,ntmps39;go_wp2_with fail;refine hp.mono ?_;rintro e w1 (⟨q,rfl,HB⟩ | ⟨r,hr,rfl,rfl,rfl⟩)
 ·have HQ:Aside (¬(0<=x/\x<(n:Int))):=q;rw [mO (show (2:Nat)≠0 by omega)];go_wp2;go_ret;exact ⟨_,N,rfl,⟨⟨_,_,_,_,_,_,_,_,HM.o.1.later HB.o⟩,HB.o.mono HM.o.1.l9,.inr ⟨rfl,fun q=>HQ.o q.1⟩⟩,by unfold Mp;rw [if_neg (fun q=>HQ.o q.1),mO (show (2:Nat)≠0 by omega)];rfl⟩
 have fX:=sN w1 y HM.o.1 HM.o.2 hy;go_wp2_with fail;refine fX.mono ?_;rintro e w2 (⟨q,rfl,HB⟩ | ⟨s,hs,rfl,rfl,rfl⟩)
 ·have HQ:Aside (¬(0<=y/\y<(n:Int))):=q;rw [mO (show (2:Nat)≠0 by omega)];go_wp2;go_ret;exact ⟨_,N,rfl,⟨⟨_,_,_,_,_,_,_,_,HM.o.1.later HB.o⟩,HB.o.mono HM.o.1.l9,.inr ⟨rfl,fun q=>HQ.o q.2.1⟩⟩,by unfold Mp;rw [if_neg (fun q=>HQ.o q.2.1),mO (show (2:Nat)≠0 by omega)];rfl⟩
 by_cases hrs:r=s
 ·subst hrs;have dq:((r:Int)==(r:Int))=true:=zr;have eb:=HM.o.2.t.G3.P7.c1;go_wp2;go_ret;exact ⟨_,N,rfl,⟨⟨_,_,_,_,_,_,_,_,HM.o.1⟩,uM _ _,.inr ⟨rfl,fun q=>q.2.2.1 rfl⟩⟩,by unfold Mp;rw [if_neg (fun q=>q.2.2 rfl),mO (show (2:Nat)≠0 by omega)];rfl⟩
 have dq:((r:Int)==(s:Int))=false:=xJ;have p0:=(HM.o.1.GA r hr).1.c0;have hvec:=tM w2 (c r) (br r) (r:Int) (K r) (HM.o.1.GP r hr).1.GP (hK r hr);have HRS:Aside (r≠s):=hrs;go_wp2_with fail;refine hvec.mono ?_;rintro e w3 ⟨rfl,hb3⟩;have fU:=ES w3 (DF r s (oV (K r))) (HM.o.1.later hb3) (HM.o.2.later hb3) ⟨hr,hs,.inl ⟨rfl,rfl⟩,fun g hg=>xA⟩;unfold VD AZ DF oV at fU;dsimp only [List.length_nil] at fU;have fe:Aside (qL w2 w3):=hb3;go_wp2_with fail;refine fU.mono ?_;rintro e w4 (⟨h30,rfl,HB⟩ | ⟨h30,rfl,HB⟩)
 ·rw [mO (show (8:Nat)≠0 by omega)];go_wp2;go_ret;have hb4:=zi fe.o HB.o;exact ⟨_,N,rfl,⟨⟨_,_,_,_,_,_,_,_,HM.o.1.later hb4⟩,hb4.mono HM.o.1.l9,.inr ⟨rfl,fun q=>zj⟩⟩,by unfold Mp;rw [if_pos ⟨⟨zj,zj⟩,⟨zj,zj⟩,fun q=>HRS.o zj⟩,if_neg zj,mO (show (8:Nat)≠0 by omega)];rfl⟩
 go_wp2;go_ret;obtain ⟨fv',ow',hm',hb'⟩:=HB.o;exact ⟨_,_,rfl,⟨⟨_,_,_,_,_,_,_,_,hm'⟩,(fe.o.mono HM.o.1.l9).trans hb',.inl ⟨rfl,h30,r,s,hr,hs,HRS.o,rfl,rfl,rfl⟩⟩,by unfold Mp;rw [if_pos ⟨⟨zj,zj⟩,⟨zj,zj⟩,fun q=>HRS.o zj⟩,if_pos h30];rfl⟩
theorem n9.adk{gd gd'}{B}{w w'}{ow ow'}{n bm}{pv fv}{bp br d}{dv}{c}{K}{st}{N}
  (h:n9 gd B w ow n bm pv fv bp br d dv c K st N) (hk:m7 (fun k=>ow k=5) w w') (hs:∀k,ow k≠0->ow' k=ow k) (hn:∀k,ow' k≠0->ow k≠0\/(w.heap.size<=k/\k<w'.heap.size)) (hg:∀k o,gd' k=some o->ow' k=5/\w'.heap[k]? =some o):
  n9 gd' B w' ow' n bm pv fv bp br d dv c K st N:=by
 have same:∀ {k i:Nat},ow k=i->i≠0->i≠5->w'.heap[k]? =w.heap[k]? :=fun {k i} e hi h5=>hk.block k (h.H yJ) (fun p=>h5 (by rw [<-e];exact p))
 have tw:∀ {k i:Nat},ow k=i->i≠0->ow' k=i:=fun {k i} e hi=>(hs k yJ).trans e
 refine ⟨h.W9,(same h.om zj zj).trans h.C9,tw h.om zj,mD h.K8 (fun g hg=>same (h.op g hg) zj zj),fun g hg=>tw (h.op g hg) zj,mD h.L5 (fun g hg=>same (h.of g hg) zj zj),fun g hg=>tw (h.of g hg) zj,fun x hx=>⟨(h.D9 x hx).R5,(h.D9 x hx).to_,np (h.D9 x hx).ops (fun g hg=>same ((h.D9 x hx).I8 g hg) zj zj),fun g hg=>tw ((h.D9 x hx).I8 g hg) zj⟩,fun r hr=>⟨(h.GA r hr).1.same (same (h.GA r hr).2 zj zj),tw (h.GA r hr).2 zj⟩,fun r hr=>⟨(h.GP r hr).1.F9 hk.size (fun k _ e=>same ((h.GP r hr).2 k e) zj qx),fun k e=>tw ((h.GP r hr).2 k e) zj⟩,fun r hr=>⟨(h.B6 r hr).1.same (fun k e=>same ((h.B6 r hr).2 k e) zj zj),fun k e=>tw ((h.B6 r hr).2 k e) zj⟩,fun k e=> ?_,fun k e=> ?_,uO h.l9 hk.size,hg⟩
 ·rcases hn k e with q | ⟨q,_⟩
  ·exact h.low k q
  exact uO h.l9 q
 by_cases q:ow' k=0
 ·exact q
 rcases hn k q with q' | ⟨_,q'⟩
 ·exact absurd (h.high k (uO hk.size e)) q'
 omega
theorem FS{w:qW}{l9 n k}{v}{e}{xs}(h:w.ownsRow l9 e k v n xs){g}(hg:v.ownBlock=some g):∃o,w.heap[g]? =some o:=by
 rcases h.2 with ⟨h1,_⟩ | ⟨g',cap,cur,rfl,_,h3,_⟩
 ·rw [h1] at hg;cases hg
 cases hg;exact ⟨_,h3⟩
theorem n9.acY{gd}{B}{w}{ow}{n bm}{pv fv}{bp br d}{dv}{c}{K}{st}{N}(h:n9 gd B w ow n bm pv fv bp br d dv c K st N)(P:Nat->Prop)(hP:∀k,P k->ow k=0/\B<=k/\k<w.heap.size):
  n9 (fun k=>if P k then w.heap[k]? else gd k) B w (fun k=>if P k then 5 else ow k) n bm pv fv bp br d dv c K st N:=by
 have y9:∀ {k i:Nat},ow k=i->i≠0->(if P k then 5 else ow k)=i:=fun {k i} e hi=>by
  grind
 refine ⟨h.W9,h.C9,y9 h.om zj,h.K8,fun g hg=>y9 (h.op g hg) zj,h.L5,fun g hg=>y9 (h.of g hg) zj,fun x hx=>⟨(h.D9 x hx).R5,(h.D9 x hx).to_,(h.D9 x hx).ops,fun g hg=>y9 ((h.D9 x hx).I8 g hg) zj⟩,fun r hr=>⟨(h.GA r hr).1,y9 (h.GA r hr).2 zj⟩,fun r hr=>⟨(h.GP r hr).1,fun k e=>y9 ((h.GP r hr).2 k e) zj⟩,fun r hr=>⟨(h.B6 r hr).1,fun k e=>y9 ((h.B6 r hr).2 k e) zj⟩,fun k e=> ?_,fun k e=> ?_,h.l9,fun k o e=> ?_⟩
 ·by_cases q:P k
  ·exact (hP k q).2.1
  rw [if_neg q] at e;exact h.low k e
 ·rw [if_neg (fun q=>zM)];exact h.high k e
 by_cases q:P k
 ·simp_all
 rw [if_neg q] at e |-
 exact h.guard k o e
theorem q8.X5{gd gd'}{B n bm}{K}{st}{N}{w}(h:q8 gd B n bm K st N w)(hg:∀k o,gd' k=some o->gd k=some o):q8 gd' B n bm K st N w:=by
 obtain ⟨ow,pv,fv,bp,br,d,dv,c,hm⟩:=h;exact ⟨ow,pv,fv,bp,br,d,dv,c,hm.W9,hm.C9,hm.om,hm.K8,hm.op,hm.L5,hm.of,hm.D9,hm.GA,hm.GP,hm.B6,hm.low,hm.high,hm.l9,fun k o e=>hm.guard k o (hg k o e)⟩
def gdQ(gd:Nat->Option Obj)(v:Value)(w:qW):Nat->Option Obj:=fun k=>if v.ownBlock=some k then w.heap[k]? else gd k
def R7(gd:Nat->Option Obj)(B n bm:Nat)(K:qH)(st:qD)(N:qJ)(T:TypeId)(v:Value)(cs:List Value)(w:qW):Prop:=
 q8 (gdQ gd v w) B n bm K st N w/\w.ownsRow B T 1 v cs.length cs/\∀k,v.ownBlock=some k->gd k=none
theorem R7.bare{gd}{B n bm}{K}{st}{N}{w}(T)(h:q8 gd B n bm K st N w):R7 gd B n bm K st N T qE [] w:=
 ⟨h.X5 (fun k o e=>by unfold gdQ at e;rwa [if_neg (fun q=>xP)] at e),Zi _ _ _ _,fun k q=>xP⟩
theorem R7.C9{gd}{B n bm}{K}{st}{N}{T}{v}{cs}{w}(h:R7 gd B n bm K st N T v cs w):q8 gd B n bm K st N w:=
 h.1.X5 (fun k o e=>by
  unfold gdQ
  rw [if_neg (fun q=>by rw [h.2.2 k q] at e;cases e)]
  exact e)
theorem R7.on{gd}{B n bm}{K K'}{st st'}{N N'}{T}{v}{cs}{w w'}(h:R7 gd B n bm K st N T v cs w)(h':q8 (gdQ gd v w) B n bm K' st' N' w'):R7 gd B n bm K' st' N' T v cs w':=by
 have e:∀g,v.ownBlock=some g->w'.heap[g]? =w.heap[g]? :=fun g hg=>by
  obtain ⟨o,ho⟩:=FS h.2.1 hg;rw [ho];exact h'.held (by unfold gdQ;rw [if_pos hg];exact ho)
 refine ⟨h'.X5 (fun k o q=> ?_),mD h.2.1 e,h.2.2⟩
 simp_all [gdQ,if_pos,if_neg]
theorem R7.adD{gd}{B n bm}{K}{st}{N}{T}{v v'}{cs cs'}{w w'}(h:R7 gd B n bm K st N T v cs w)(hk:m7 (fun k=>some k=v.ownBlock) w w')(ho:w'.ownsRow B T 1 v' cs'.length cs')(hv:∀g,v'.ownBlock=some g->v.ownBlock=some g\/w.heap.size<=g):R7 gd B n bm K st N T v' cs' w':=by
 obtain ⟨⟨ow,pv,fv,bp,br,d,dv,c,hm⟩,h3,h1⟩:=h
 have h5:∀g,v.ownBlock=some g->ow g=5:=fun g hg=>by
  obtain ⟨o,ho⟩:=FS h3 hg;exact (hm.guard g o (by unfold gdQ;simp_all)).1
 have hgn:∀k,v'.ownBlock=some k->gd k=none:=fun k hk'=>by
  rcases hv k hk' with q | q
  ·exact h1 k q
  cases e:gd k with
  | none=>rfl
  | some o=>
   have:=(hm.guard k o (by unfold gdQ;grind)).1;have:=hm.high k q;omega
 refine ⟨⟨fun k=>if v'.ownBlock=some k then 5 else ow k,pv,fv,bp,br,d,dv,c,hm.adk (hk.mono (fun k _ q=>h5 k (Eq.symm q))) (fun k e=> ?_) (fun k e=> ?_) (fun k o e=> ?_)⟩,ho,hgn⟩
 ·try dsimp only
  by_cases q:v'.ownBlock=some k
  ·rw [if_pos q]
   rcases hv k q with q' | q'
   ·exact (h5 k q').symm
   exact absurd (hm.high k q') e
  rw [if_neg q]
 ·try dsimp only at e
  by_cases q:v'.ownBlock=some k
  ·rcases hv k q with q' | q'
   ·left;rw [h5 k q'];omega
   right;obtain ⟨o,ho'⟩:=FS ho q;exact ⟨q',(uK.1 ho').1⟩
  simp_all
 unfold gdQ at e
 try dsimp only at e |-
 by_cases q:v'.ownBlock=some k
 ·simp_all
 rw [if_neg q] at e |-
 have hnv:v.ownBlock≠some k\/v.ownBlock=some k:=by by_cases q':v.ownBlock=some k<;>simp [q']
 rcases hnv with q' | q'
 ·obtain ⟨e1,e2⟩:=hm.guard k o (by unfold gdQ;rw [if_neg q'];exact e);exact ⟨e1,(hk.block k (hm.H (by rw [e1];omega)) (fun q2=>q' (Eq.symm q2))).trans e2⟩
 simp_all
end
section
open RowKit
theorem Pp(qs)(p):(nmB qs p).data.toList=if qs.any (rB p)=true then p.2.2.data.toList++126::Lib.itoa p.1 else p.2.2.data.toList:=by
 unfold nmB;split
 ·simp
 rfl
end
section
open RowKit
open scoped Classical
theorem K7.acT{w}{c}{br}{o9}{R}(h:K7 w c br o9 R)(hl:(lX R).length<=300):
  ∃bt bm n v ms qs,Q2 w br bt bm n v (lM ms)/\ms.Perm (pz (lX R))/\C3 (lM ms) qs/\qs.length<=300/\mn ms:=by
 obtain ⟨T,kv,bt,bx,bc,A,hm,hp,hR,_,_⟩:=h;obtain ⟨bm,v,ms,hT,dE,_,_,_⟩:=hm.Y7;obtain ⟨n,hn,hM⟩:=hT.map;have hpA:ms.Perm (pz (lX R)):=dE.trans (hp.filterMap Wj)
 have hml:ms.length<=300:=by
  rw [hpA.length_eq];exact uO (YJ _ _) hl
 obtain ⟨qs,hq,hql⟩:=Ap ms;exact ⟨bt,bm,n,v,ms,qs,⟨hm.cell.c6,hT.cell,hM,zj,Ui hR.G6 hpA hT.o9 hT.Y8⟩,hpA,hq,zj,hT.o9⟩
end
section
open RowKit Lib Go.Sort Maps
open scoped Classical
theorem Oi{A}{mm}(h:P9 (rm A) mm):mm.length<=A.length:=by
 have hn:(mm.map Ao).Nodup:=YO.2 (h.L3.imp (S:=fun a b:Mrk=>Ao a≠Ao b) (fun {a b} q e=>zM))
 have hs:∀k,k∈mm.map Ao->k∈(rR A).map (·.1):=fun k hk=>by
  obtain ⟨m,hm,rfl⟩:=Zj.1 hk;obtain ⟨-,s,hs⟩:=(h.U5 m).1 hm;have hb:=AI (rR A) (Ao m);unfold rm at hs;rw [hs] at hb;have hmem:(Ao m,(m.2.2,s))∈rR A:=hb.1
  grind
 have h1:=oP hn hs;rw [Zh,Zh] at h1;exact uO h1 (YJ _ _)
theorem Qv{A}{ts}(h:N7 A ts):ts.length<=A.length:=by
 have hn:(ts.map (·.1)).Nodup:=YO.2 (h.L3.imp (S:=fun a b:Int×qU=>a.1≠b.1) (fun {a b} q e=>zj))
 have hs:∀k,k∈ts.map (·.1)->k∈A.map mY:=fun k hk=>by
  obtain ⟨x,hx,_,e,_⟩:=(h.U5 k).1 hk;exact Zj.2 ⟨x,hx,e⟩
 have h1:=oP hn hs
 simp_all
theorem QG{A}(hA:D5 A)(hl:A.length<=300){s}(h:GB A s):s.length<=10000000:=by
 obtain ⟨ms,qs,ts,A',mm,h1,h2,h3,h4,h5,h6,rfl⟩:=h
 have hml:ms.length<=300:=by
  rw [h1.length_eq];exact uO (YJ _ _) hl
 obtain ⟨q2,hq2,hql⟩:=Ap ms;obtain rfl:=h3.q hq2
 have hG:=ro fun m hm=>by
  obtain ⟨y,hy,hk,rfl⟩:=EY (h1.mem_iff.1 hm);have h2:=hA.ok y hy;obtain ⟨t,b,m,kd,l8,other,name,value⟩:=y;have hk:kd=109:=hk;subst hk;exact Gl h2
 have jG:mm.length<=300:=by have:=Oi h6;have:=h5.length_eq;omega
 have iY:ts.length<=300:=by have:=Qv h4;omega
 have hf:=Yi sr ts
 have hb:∀l∈CK qs ts mm,l.length<=10000:=fun l fw=>by
  unfold CK at fw
  rcases uV.1 fw with q | q
  ·rcases uV.1 q with q | q
   ·obtain ⟨p,hp,rfl⟩:=Zj.1 q;exact FB (hG.Y8 _ _ ((h3.U5 p).1 hp))
   obtain ⟨t,ht,rfl⟩:=Zj.1 q;have ie:=(Ye.1 ht).1;obtain ⟨L,hL,e⟩:=h4.E5 t ie;have k1:=wE L;have k2:=hL.D4;obtain ⟨x,hx,_,e2,_⟩:=(h4.U5 t.1).1 (Zj.2 ⟨t,ie,rfl⟩);have q:=mT (hA.ok x hx);have e3:x.2.2.2.2.1=t.1:=e2;have q2:=q.2.2.2.2.2.2.2.2.1;exact KS (by rw [e];omega) zj zj
  obtain ⟨m,hm,rfl⟩:=Zj.1 q;exact Ja (Hv h6 hm)
 have hj:=Is 10000 _ hb
 grind [CK,uQ,Zh,ZG]
end
section
abbrev zdu(R:List Plc):Prop:=R.Pairwise (fun a b=>NLt (Gb a) (Gb b))
structure zdO (R:List Plc) (p:Plc) (k:Nat):Prop where
 le:k<=R.length
 ahead:∀(j:Nat) q,j<k->R[j]? =some q->¬p.2.2.data.toList<q.2.2.data.toList
 stop:∀q,R[k]? =some q->p.2.2.data.toList<q.2.2.data.toList
structure zdF (qs:List Plc) (i:Int) (n:Nat) (R:List Plc):Prop where
 G4:R.Perm ((qs.take n).filter (fun p=> !(p.2.1 !=i)))
 row:zdu R
end
section
open ChangeShapes WideShapes ChangeAt RowKit Joins ChangeMaps
theorem pJ{P}{w} :∀(l1 l2:List (String×DataW Unit)) (ps:List MemPlace),DataW.LaidVars P w (l1++l2) ps->∃q1 q2,DataW.LaidVars P w l1 q1/\DataW.LaidVars P w l2 q2/\ps=q1++q2
 | [],l2,ps,h=>⟨[],ps,rfl,h,rfl⟩
 | x::l1,l2,ps,h=>by
  obtain ⟨g,t,cs,fuel,p,q,a1,a2,a3,a4,a5,rfl⟩:=h;obtain ⟨q1,q2,b1,b2,rfl⟩:=pJ l1 l2 q a5;exact ⟨_,q2,⟨g,t,cs,fuel,p,q1,a1,a2,a3,a4,b1,rfl⟩,b2,zr⟩
theorem Am{P}{w}(l1 l2 l3)(h:laidMet P (l1++(l2++l3)) w):laidMet P l2 w:=by
 obtain ⟨ps,hv,cq,hr⟩:=h;obtain ⟨q1,q2,-,b,rfl⟩:=pJ l1 (l2++l3) ps hv;obtain ⟨q3,q4,c,-,rfl⟩:=pJ l2 l3 q2 b;exact ⟨q3,c,(ZI.1 (ZI.1 cq).2.1).1,fun b off hm=>hr b off (ZB _ (Zm _ hm))⟩
theorem Q3.at{B}{ad ad'}{w}(h:Q3 B ad w)(e:∀i,i<12->ad' i=ad i):Q3 B ad' w:=by
 refine ⟨?_,?_,?_,?_,?_,?_,?_,?_,?_,?_,?_,?_,h.et,fun i hi=>by rw [e i hi];exact h.lt i hi,fun i hi=>by rw [e i hi];exact h.row i hi,fun i j hi hj hne=>by rw [e i hi,e j hj];exact h.ne i j hi hj hne,h.big,h.size⟩
 ·rw [e 0 zj];exact h.c0
 ·rw [e 1 zj];exact h.c1
 ·rw [e 2 zj];exact h.c2
 ·rw [e 3 zj];exact h.c3
 ·rw [e 4 zj];exact h.c4
 ·rw [e 5 zj];exact h.c5
 ·rw [e 6 zj];exact h.c6
 ·rw [e 7 zj];exact h.c7
 ·rw [e 8 zj];exact h.c8
 ·rw [e 9 zj];exact h.c9
 ·rw [e 10 zj];exact h.c10
 rw [e 11 zj];exact h.c11
def Ek:List (String×DataW Unit):=[("math/bits.deBruijn32tab",Rows.laid_math_bits_deBruijn32tab),("math/bits.deBruijn64tab",Rows.laid_math_bits_deBruijn64tab),("internal/strconv.uint64pow10",Rows.laid_internal_strconv_uint64pow10),("unicode/utf8.acceptRanges",Rows.laid_unicode_utf8_acceptRanges)]++(wM++ [("unicode/utf8.first",Rows.laid_unicode_utf8_first)])
theorem WF{W}(h:laidMet prog Ek W)(h2:handlesMet prog AW W)(cl:W.ShapedOpen prog):∃ad:Nat->Addr,E6 W.heap.size ad W/\Q3 W.heap.size ad W:=by
 have cr:=Am _ wM _ h;obtain ⟨ad0,hE0⟩:=Xj cr h2;obtain ⟨m,hm⟩:=Tryz.acj.s1_3 W cl;have hp:("internal/strconv.uint64pow10",Rows.laid_internal_strconv_uint64pow10)∈Ek:=.tail _ (.tail _ (.head _));have hq:("math/bits.deBruijn64tab",Rows.laid_math_bits_deBruijn64tab)∈Ek:=.tail _ (.head _);have ht:=zbp (Lib.laidMet.reads h hp)
 obtain ⟨ad,hE,hc⟩:∃ad:Nat->Addr,Q3 W.heap.size ad W/\Cyc ad:=⟨fun i=>if i=100 then (qB 1) else ad0 i,hE0.at (fun i hi=>if_neg zj),rfl⟩
 exact ⟨ad,⟨⟨⟨⟨hE.c1,hE.c2,hE.c3,hE.c4⟩,hE.c5,hE.c6,hE.c7,hE.c8,fun _=>hE.c9,hE.big,uL _⟩,Lib.tabBelow_of_tabIs ht⟩,
  WB ⟨⟨⟨hE.c1,hE.c2,hE.c3,hE.c4⟩,ht⟩,⟨hE.c1,hE.c2,hE.c7,hE.c10⟩,zck (Lib.laidMet.reads h hq),hE.c0,m,hm⟩,hc⟩,hE⟩

end