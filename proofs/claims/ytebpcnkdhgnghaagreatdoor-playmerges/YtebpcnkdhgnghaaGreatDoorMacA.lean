import Derived.WalkKit
import Derived.Deep.LoopGhost
import Derived.Deep.AppendLies
namespace Go
theorem Aside.o{p:Prop}(h:Aside p):p:=h
theorem RowKit.Hid.o{p:Prop}(h:RowKit.Hid p):p:=h
end Go
namespace Go.Proofs
open Go.RowKit
theorem kc4{P:Prop}(h:P:=by
 obtain ⟨t,b,n,k,nd,o,s,v⟩:=x
 have h':opE t b n k nd o s.data.toList v.data.toList=0:=h
 obtain ⟨h1,h2,h3,h4,h5,h6,hk,h7,h8,h9,h10,-,hn,hv⟩:=ar h'
 have e1:=Lib.itoa_length_le t zj zj
 have e2:=Lib.itoa_length_le b zj zj
 have e3:=Lib.itoa_length_le n zj zj
 have e4:=Lib.itoa_length_le nd zj zj
 have e5:=Lib.itoa_length_le o zj zj
 have e6:=mG v.data.toList
 unfold ac kY
 simp only [lG,vN,ud,uz]
 omega):P:=h
theorem kc8{P:Prop}(h:P:=by
 unfold StpBlk at h1
 unfold OpBlk at h2
 rw [e,h2] at h1
 exact absurd (congrArg (fun o:Option Obj=>match o with | some (.cells c _ _)=>c.size | _=>0) h1) zt):P:=h
theorem kc9{P:Prop}(h:P:=by
 have:=hp.2.2
 simp only [Array.toList_extract] at this
 rw [List.extract_eq_take_drop,List.extract_eq_take_drop,List.drop_zero,List.drop_zero,Nat.sub_zero,vT (by simp [hsz]),vT zt] at this
 exact this):P:=h
theorem kd0{P:Prop}(h:P:=by
 rw [HX.o]
 exact no hown vv (by first | exact ll ys _ _ | simp [cellsOf])):P:=h
theorem kd2{P:Prop}(h:P:=by
 have Bu:=zi A.o.2.2.1 K.o.2
 exact ⟨Bu.trans ((W2.o.grown hgrow W2.o.size (fun k hk=>(O2.o.lt k hk).1)).mono Bu.size),fun g o n c e=>by have:=DM hown e;have:=Bu.size;omega⟩):P:=h
theorem kd4{P:Prop}(h:P:=by
 rw [uD] at this
 exact this):P:=h
theorem kd5{P:Prop}(h:P:=by
 have X:=Runs.cut V.swo HR.o zj zj zj zj HLO.o HHI.o RT
 rw [show i+(e - m)=mid by omega] at X
 exact X):P:=h
theorem kd6{P:Prop}(h:P:=by
 have hc:=HAT.o w3 HB3.o
 have hPl:P<w3.heap.size:=vK w3 ⟨P,0,none⟩ hc.1
 have hpP:=HV.o.2.2.1
 exact ⟨(hk4.cell (a:=⟨P,0,none⟩) hPl (fun e=>vx)).trans hc.1,(hk4.cell (a:=⟨P,1,none⟩) hPl (fun e=>vx)).trans hc.2.1,(hk4.cell (a:=⟨P,7,none⟩) hPl (fun e=>vx)).trans hc.2.2⟩):P:=h
theorem kd7{P:Prop}(h:P:=by
 have hlt:=(vA.1 hj).1
 rw [<-htake,Zd,if_pos zj] at hj
 simp [World.cell?,hgb,<-hj]):P:=h
theorem kd8{P:Prop}(h:P:=by
 simp only [Lib.join_length,Lib.lens,ut,ZF,ud,uz,ZK,List.sum_nil]
 omega):P:=h
theorem kd9{P:Prop}(h:P:=by
 have hgk:g≠k:=fun e=>hs e.symm
 simp only [sortWorldK,putRowK,putRow,mapBlock,Sort.ahead,grow]
 rw [Array.getElem?_append_left (by simpa using hk)]
 simp [Array.getElem?_modify,hgk]):P:=h
theorem ke0{P:Prop}(h:P:=by
 have hWs:W.heap.size=w.heap.size+1:=by rw [h0,hW1];simp
 exact ⟨_,rfl,CD hgW hY hRs hbase hGn hGm zj hxl hv,⟨k1.os.trans h2,k1.tape.trans h3,k1.output.trans h4,by have:=k1.size;omega,fun k hk hs=>by
    refine (k1.block k zj zj).trans ?_
    rw [h0,hW1]
    exact vP w.drew _ k hk⟩,.inr rfl⟩):P:=h
theorem ke6{P:Prop}(h:P:=by
 have Bu:=zi A.o.2.2 K.o.2
 exact Bu.trans ((W2.o.grown hgrow W2.o.size (fun k hk=>(O2.o.lt k hk).1)).mono Bu.size)):P:=h
theorem ke8{P:Prop}(h:P:=by
 rw [<-HB.o]
 exact hBW.trans (belowK_b (w:=w) zj W D _ _ yN hK rfl rfl)):P:=h
theorem kf8{P:Prop}(h:P:=by
 have hc:=(HV.o.1.later HB3.o).cells.2.2.2.1
 have hPl:P<w3.heap.size:=vK w3 ⟨P,3,none⟩ hc
 have hpP:=HV.o.2.2.1
 exact (hk4.cell (a:=⟨P,3,none⟩) hPl (fun e=>vx)).trans hc):P:=h
theorem kf9{P:Prop}(h:P:=by
 exact ⟨_,rfl,wT hownW hroom zj hv,⟨k1.os.trans h2,k1.tape.trans h3,k1.output.trans h4,by rw [<-h0];exact k1.size,fun k hk hs=>by
    rw [<-h0]
    exact k1.block k (by rw [h0];exact hk) (fun e=>hs vd)⟩,.inl rfl⟩):P:=h
theorem kg2{P:Prop}(h:P:=by rw [hb.cell (p:=⟨b,o,none⟩) (vK w ⟨b,o,none⟩ h)];exact h):P:=h
theorem kg3{P:Prop}(h:P:=by
 rw [HX.o]
 have hdrop:ys.drop k= []:=ZQ zj
 exact no hown vv (by rw [<-ll,hdrop];simp [cellsOf])):P:=h
theorem kg4{P:Prop}(h:P:=by
 simp only [Value.slice.injEq] at hv
 obtain ⟨rfl,-,-⟩:=hv
 refine .inr ⟨g,0,rfl,fun j u hj=> ?_⟩
 have hl:=(vA.1 hj).1
 rw [bX (k:=1) (fun _=>rfl)] at hl
 rw [vQ,h.cellAt j hl];exact hj):P:=h
theorem kh0{P:Prop}(h:P:=by
 rw [if_pos hw] at this
 exact .inl this):P:=h
theorem kh1{P:Prop}(h:P:=by
 have q1:0<=x.2.2.2.2.1:=q.2.2.2.2.2.2.2.1
 have q2:x.2.2.2.2.1<=x.1*4+x.2.1:=q.2.2.2.2.2.2.2.2.1
 have q3:x.1<=1073741824:=q.2.1
 have q4:x.2.1<4:=q.2.2.2.1
 omega):P:=h
theorem kh2{P:Prop}(h:P:=by
 have:=of_decide_eq_true hq
 obtain ⟨rfl,rfl,rfl,rfl,rfl,rfl,rfl,rfl⟩:=this
 rfl):P:=h
theorem kh3{P:Prop}(h:P:=by
 rw [hU,hS,vP _ _ _ zt]
 exact heap_alloc_new w _):P:=h
theorem kh4{P:Prop}(h:P:=by
 have:=HK.o
 rw [HCH.o] at this
 have e:idO (xt,xb,xn,xk,xd,xo,xs,xv)=4*xt+xb:=by unfold idO;dsimp only;omega
 rw [e] at this
 exact this):P:=h
theorem kh6{P:Prop}(h:P:=by exact aH (b:=S+1) B7.o.1 vy 0 [.int .i64 0,.int .i64 0,.int .i64 0,.int .u8 0,.int .i64 0,.int .i64 0,.string ⟨#[]⟩,.string ⟨#[]⟩]):P:=h
theorem kh8{P:Prop}(h:P:=by
 rintro e w' ⟨rfl,hb⟩
 exact ⟨rfl,ActOk.of_below hT hb⟩):P:=h
theorem kh9{P:Prop}(h:P:=by
 unfold cE
 rw [List.getD_eq_getElem?_getD,vF zj]
 rfl):P:=h
theorem ki0{P:Prop}(h:P:=by
 intro h0
 rw [HKQ.o,ZH];exact HF.o):P:=h
theorem ki2{P:Prop}(h:P:=by
 rw [hr] at hrun
 simp only [Result.ok.injEq] at hrun
 right
 rw [<-hrun.1,<-hrun.2]
 exact ⟨rfl,rfl,rfl,rfl,zt,fun k hk _=>vP w.drew _ k hk⟩):P:=h
theorem ki5{P:Prop}(h:P:=by exact h.two _ _ zj zj zj):P:=h
theorem ki7{P:Prop}(h:P:=by
 rw [if_neg hw] at this
 exact this):P:=h
theorem ki8{P:Prop}(h:P:=by exact ⟨rfl,(zh _ _).trans (hb.mono zt)⟩):P:=h
theorem ki9{P:Prop}(h:P:=by
 rw [hmin] at this
 exact this):P:=h
theorem kj1{P:Prop}(h:P:=by
 have e1:IntKind.i64.min= -2^63:=zr
 have e2:IntKind.i64.max=2^63 - 1:=zr
 simp only [Lit.wf,e1,e2,uL,decide_eq_true_eq]
 omega):P:=h
theorem kj2{P:Prop}(h:P:=by exact ⟨⟨_,rfl,_,rfl,Fq _ _ _ _⟩,((H3.o.1.below.alloc H3.o.1.below.size _).alloc (by simp;have:=H3.o.1.below.size;omega) _).drew⟩):P:=h
theorem kj3{P:Prop}(h:P:=by
 subst hv
 subst h0
 exact run_convert_bytes_back w _ _ _ _ _ [] Tryz.underlying184 Tryz.underlying5 Tryz.underlying9 (fun j hj=>by simp at hj)):P:=h
theorem kj5{P:Prop}(h:P:=by exact .inl (vZ.1 h2)):P:=h
theorem kj7{P:Prop}(h:P:=by exact .inr ⟨e.1,⟨e.2.os,e.2.tape,e.2.output,e.2.size,e.2.block⟩⟩):P:=h
theorem kj8{P:Prop}(h:P:=by
 have hkp:=aZ b [.int .u8 hd] j wr
 exact A.o.2.2.trans (hkp.below A.o.2.2.size (fun q e=>by have:=hb.o;omega))):P:=h
theorem kj9{P:Prop}(h:P:=by
 have:=HV.o.2.1.len
 simp only [vN,vW,ud,ur]
 omega):P:=h
theorem kk0{P:Prop}(h:P:=by
 have h1:=h.row.lt g hg
 have h2:=h.low
 exact ⟨zj,h1.2,h1.1⟩):P:=h
theorem kk2{P:Prop}(h:P:=by exact h.one _ _ zj zj zj):P:=h
theorem kk3{P:Prop}(h:P:=by exact absurd this (ub.1 hnd' i j hi hj hij)):P:=h
theorem kk5{P:Prop}(h:P:=by
 have h2:=hok y hy
 obtain ⟨t,b,m,kd,node,other,name,value⟩:=y
 have hk:kd=109:=hk
 subst hk
 exact pu h2):P:=h
theorem kk6{P:Prop}(h:P:=by rcases hv with rfl | rfl | rfl | rfl | rfl | rfl | rfl | rfl<;>rfl):P:=h
theorem kk7{P:Prop}(h:P:=by
 have:=A.o.1.next (k:=0) hlt (vM _) (fun h=>zj) (fun p _ h=>qq)
 simpa using this):P:=h
theorem kk8{P:Prop}(h:P:=by
 have e:(m.1,d)=m:=by simpa using hd
 have e2:d=m.2:=jt
 rw [e2]
 exact cZ):P:=h
theorem kk9{P:Prop}(h:P:=by
 rw [e] at this
 exact absurd this cZ):P:=h
theorem kl0{P:Prop}(h:P:=by rw [uw _ _ ⟨12,0,none⟩ zq,uw _ _ ⟨12,0,none⟩ hlt];exact hg):P:=h
theorem kl1{P:Prop}(h:P:=by exact .inr ⟨g,o,h1,fun j u hj=>by rw [uc (a:=⟨g,o+j,none⟩) (hk g o h1)];exact h2 j u hj⟩):P:=h
theorem kl3{P:Prop}(h:P:=by exact ⟨rfl,rfl⟩):P:=h
theorem kl4{P:Prop}(h:P:=by
 dsimp only
 rw [if_pos rfl]
 exact .inl ⟨rfl,rfl,rfl,hok,.inl ⟨rfl,by rw [GQ,hB]⟩⟩):P:=h
theorem kl5{P:Prop}(h:P:=by rw [hW1,ZE (w:=w.drew) ROW _ w.heap.size j rfl,Zy zj];rfl):P:=h
theorem kl6{P:Prop}(h:P:=by
 subst hv
 exact run_convert_bytes_nil w _ _ Tryz.underlying184 Tryz.underlying5 0 0 _ Tryz.underlying9):P:=h
theorem kl8{P:Prop}(h:P:=by have:=h k hk;rw [hf] at this;exact this z):P:=h
theorem kl9{P:Prop}(h:P:=by simp [sortWorldK,putRowK,putRow,mapBlock,Sort.ahead,grow]):P:=h
theorem km0{P:Prop}(h:P:=by
 simp only [results,h]
 simp [Sem.run_bind,Result.andThen]):P:=h
theorem km1{P:Prop}(h:P:=by
 rw [fU hx.o]
 rw [Gd hyy2.o,Bool.or_false]
 exact A2.o.2.1):P:=h
theorem km2{P:Prop}(h:P:=by
 cases e
 rw [Il] at hq
 cases hq):P:=h
theorem km3{P:Prop}(h:P:=by exact .inr ⟨g,cap,cur,rfl,h1,(hs g rfl).trans hg,h2⟩):P:=h
theorem km4{P:Prop}(h:P:=by
 rw [hg] at e1
 cases e1
 rw [uD];omega):P:=h
theorem km5{P:Prop}(h:P:=by rw [if_neg zj,if_neg zj]):P:=h
theorem km7{P:Prop}(h:P:=by
 have h:=ZZ hil
 rw [(vA.1 HL.o).2] at h
 exact h):P:=h
theorem km8{P:Prop}(h:P:=by
 obtain ⟨⟨D,⟨es,clock,hb,F⟩,r⟩,g⟩:=h
 exact ⟨⟨D,⟨es,clock,e.trans hb,F⟩,r⟩,g⟩):P:=h
theorem km9{P:Prop}(h:P:=by
 rintro D c pre W _ _ h _
 exact h.elim):P:=h
theorem kn0{P:Prop}(h:P:=by have:=h k hk;rw [hf] at this;exact this):P:=h
theorem kn1{P:Prop}(h:P:=by
 rw [<-HB.o]
 exact ownsRow_putObj hrow _ hK rfl):P:=h
theorem kn2{P:Prop}(h:P:=by
 have:=(h.mem o.1 o.2).1 (vH hs)
 rw [e,hf] at this
 cases this):P:=h
theorem kn3{P:Prop}(h:P:=by
 rw [hROW]
 simp only [Array.size_append,uq,htl,size_zeroCells,hZs]
 omega):P:=h
theorem kn4{P:Prop}(h:P:=by exact .inl ⟨g,cp,by unfold kvs;rw [HLN.o,HAO.o];exact e1,by rw [HLN.o];exact e2⟩):P:=h
theorem kn5{P:Prop}(h:P:=by exact ⟨(if_neg hk).trans q.1,hk⟩):P:=h
theorem kn6{P:Prop}(h:P:=by rcases hv with rfl | rfl | rfl<;>rfl):P:=h
theorem kn7{P:Prop}(h:P:=by
 obtain rfl:j=k:=zj
 rw [hl.o] at e
 cases e
 exact HQ.o):P:=h
theorem kn8{P:Prop}(h:P:=by exact .inl ⟨h1,vZ.1 h2⟩):P:=h
theorem ko1{P:Prop}(h:P:=by rw [vQ,h'.cellAt j hl,hj]):P:=h
theorem ko3{P:Prop}(h:P:=by
 obtain rfl:i=xs.length:=zj
 exact ⟨A.o.2.1.ops,A.o.1.all,A.o.2.2⟩):P:=h
theorem ko4{P:Prop}(h:P:=by exact fun z=>atKey_put_same hD (show WideAt.IsKeyLit (.int .i64 x) from trivial) _ _):P:=h
theorem ko5{P:Prop}(h:P:=by
 obtain ⟨D,⟨es,clock,hb,F⟩,r⟩:=h
 exact ⟨D,⟨es,clock,e.trans hb,F⟩,r⟩):P:=h
theorem ko6{P:Prop}(h:P:=by
 rw [hr] at hrun
 simp only [Result.ok.injEq] at hrun
 right
 rw [<-hrun.1]
 rfl):P:=h
theorem ko7{P:Prop}(h:P:=by
 rintro ⟨x,hx,k1,k2,k3⟩
 exact ⟨x,by rw [<-k3];exact As h hx,k1,k2⟩):P:=h
theorem ko8{P:Prop}(h:P:=by
 rintro ⟨x,e,k1,k2⟩
 rw [hf] at e
 cases e
 exact ⟨k1,k2⟩):P:=h
theorem kp0{P:Prop}(h:P:=by
 rintro ⟨x,hx,k1,k2⟩
 obtain ⟨a,b⟩:=nX hx
 exact ⟨x,a,k1,k2,b⟩):P:=h
theorem kp1{P:Prop}(h:P:=by
 rw [e,List.getElem?_append_right zj,hl,Nat.add_sub_cancel_left]
 exact hj):P:=h
theorem kp2{P:Prop}(h:P:=by
 rw [iU zj]
 exact hk.mono (fun z hz=>ug _ hz)):P:=h
theorem kp3{P:Prop}(h:P:=by simpa using this):P:=h
theorem kp4{P:Prop}(h:P:=by subst hji;exact hy.wpOp hi (hTw listed w hS hz) ⟨hS.imp id iN,H⟩):P:=h
theorem kp5{P:Prop}(h:P:=by
 obtain ⟨rfl,rfl,rfl⟩:=h
 rfl):P:=h
theorem kp6{P:Prop}(h:P:=by rw [hp.2.1 i (.inl zj),hp.2.1 j (.inl h1)];exact h.done i j hij h1 hsm):P:=h
theorem kp7{P:Prop}(h:P:=by exact La _ zj):P:=h
theorem kp8{P:Prop}(h:P:=by
 rw [e,ZJ (vA.1 hj).1]
 exact hj):P:=h
theorem kp9{P:Prop}(h:P:=by refine ⟨?_,?_,?_,?_,fun c=> ?_⟩<;>simp [World.cell?,World.frozen?,this]):P:=h
theorem kq0{P:Prop}(h:P:=by
 rw [f6,f5,f4,f3,f2,f1]
 simp [bY,cq,gD,iS,Lib.join]):P:=h
theorem kq1{P:Prop}(h:P:=by exact Bool.noConfusion (hd.symm.trans hx)):P:=h
theorem kq2{P:Prop}(h:P:=by exact ⟨y,ug _ hy,q⟩):P:=h
theorem kq3{P:Prop}(h:P:=by rw [uK hlt,(vA.1 hx.o).2]):P:=h
theorem kq4{P:Prop}(h:P:=by
 clear hK K
 refine wpAnyH_done zo ?_ _
 exact FIN.o):P:=h
theorem kq5{P:Prop}(h:P:=by exact ⟨List.mem_of_find?_eq_some h,by simpa using List.find?_some h⟩):P:=h
theorem kq7{P:Prop}(h:P:=by intro hx;have:=up _ _ hx;omega):P:=h
theorem kq8{P:Prop}(h:P:=by
 rintro ⟨g,cap,cur,h1,h2,h3⟩
 exact ⟨g,cap,cur,h1,zj,h3⟩):P:=h
theorem zj{P:Prop}(h:P:=by omega):P:=h
theorem zo{P:Prop}(h:P:=by kernel_rfl):P:=h
theorem zq{P:Prop}(h:P:=by simp;omega):P:=h
theorem zr{P:Prop}(h:P:=by decide):P:=h
theorem zt{P:Prop}(h:P:=by simp):P:=h
theorem zu{P:Prop}(h:P:=by rw [IntKind.wrap_i64];omega):P:=h
theorem zv{P:Prop}(h:P:=by rfl):P:=h
theorem zw{P:Prop}(h:P:=by go_num):P:=h
theorem zA{P:Prop}(h:P:=by simp only [maxLen];omega):P:=h
theorem zB{P:Prop}(h:P:=by intro w' hSw;obtain ⟨k0,k1,k2,k3,k4,k5⟩:=hSw;go_simp;try with_reducible rfl):P:=h
theorem zD{P:Prop}(h:P:=by intro w' hSw;obtain ⟨j0,j1,j2,j3,j4,j5,j6,j7,-⟩:=OpBlk.cells hSw.1;dsimp only at j0 j1 j2 j3 j4 j5 j6 j7;clear hSw;go_simp;try with_reducible rfl):P:=h
theorem zF{P:Prop}(h:P:=by intro w' hSw;obtain ⟨j0,j1,j2,j3,j4,j5,j6,j7,-⟩:=OpBlk.cells hSw;dsimp only at j0 j1 j2 j3 j4 j5 j6 j7;go_simp;try with_reducible rfl):P:=h
theorem zG{P:Prop}(h:P:=by intro w' hSw;obtain ⟨k1,k2,k3,k4⟩:=hSw;go_simp;try with_reducible rfl):P:=h
theorem zH{P:Prop}(h:P:=by intro w' hSw;obtain ⟨k0,k1,k2⟩:=hSw;go_simp;try with_reducible rfl):P:=h
theorem zI{P:Prop}(h:P:=by rw [hU];exact (zh w _).alloc zt _):P:=h
theorem zJ{P:Prop}(h:P:=by rw [hZ.o];exact ⟨hbX.trans ((aZ QQ _ 0 X).below hbX.size (fun q e=>zj)),FR ZX (yt,yb,yn,yk,yd,yo,ys,yv)⟩):P:=h
theorem zK{P:Prop}(h:P:=by intro w' hSw;obtain ⟨e0,e1,e2,e3⟩:=hSw;go_simp;try with_reducible rfl):P:=h
theorem zL{P:Prop}(h:P:=by intro w' hSw;obtain ⟨g0,g1,g2,g3⟩:=hSw;go_simp;try with_reducible rfl):P:=h
theorem zM{P:Prop}(h:P:=by intro w' hSw;obtain ⟨g0,g1,g2⟩:=hSw;go_simp;try with_reducible rfl):P:=h
theorem zN{P:Prop}(h:P:=by intro k hk;simp [Value.ownBlock] at hk):P:=h
theorem zO{P:Prop}(h:P:=by unfold RepCell at h;simp [World.cell?,h]):P:=h
theorem zP{P:Prop}(h:P:=by simp [World.cell?,hfl]):P:=h
theorem zQ{P:Prop}(h:P:=by dsimp only;omega):P:=h
theorem zR{P:Prop}(h:P:=by rw [decide_eq_false_iff_not];omega):P:=h
theorem zT{P:Prop}(h:P:=by rw [hU,hS];exact (vP _ _ _ zt).trans (KBox.new w ao cap R)):P:=h
theorem zV{P:Prop}(h:P:=by rw [hC.o];exact vB _):P:=h
theorem zW{P:Prop}(h:P:=by simp at hx):P:=h
theorem zX{P:Prop}(h:P:=by simp [World.cell?,hbx]):P:=h
theorem zY{P:Prop}(h:P:=by have:=HA.o;rw [hb,Bool.true_and] at this;exact this):P:=h
theorem zZ{P:Prop}(h:P:=by intro w' hSw;have j4:=(OpBlk.cells hSw.1).2.2.2.2.1;dsimp only at j4;clear hSw;go_simp;try with_reducible rfl):P:=h
theorem ya{P:Prop}(h:P:=by have:=(H3.o.1.new i hi).1.alloc (.cells #[.int .i64 t,.int .i64 (i:Int),.int .i64 n,.int .u8 (kd:Int),.int .i64 nd,.int .i64 o,.string s,.string v] 61);unfold kvs at this;rw [HLN.o,HAO.o] at this;exact this):P:=h
theorem yc{P:Prop}(h:P:=by rw [beq_eq_false_iff_ne];omega):P:=h
theorem ye{P:Prop}(h:P:=by first | rfl | (congr 1;omega)):P:=h
theorem yg{P:Prop}(h:P:=by obtain ⟨Bx,f1,f2,f3⟩:=hs;exact ⟨Bx,f1,bF f2 hg hr,f3⟩):P:=h
theorem yh{P:Prop}(h:P:=by intro w' hSw;obtain ⟨g0,g1⟩:=hSw;go_simp;try with_reducible rfl):P:=h
theorem yi{P:Prop}(h:P:=by simp only [Nat.min_def];split<;>omega):P:=h
theorem yj{P:Prop}(h:P:=by unfold cO;omega):P:=h
theorem yl{P:Prop}(h:P:=by simp [Act.eval,Act.put]):P:=h
theorem ym{P:Prop}(h:P:=by intro w' hSw;have q2:=hSw.2;rw [hy.o] at q2;obtain ⟨q0,q1,q2,q3,q4,q5,q6,q7,-⟩:=OpBlk.cells q2;dsimp only at q0 q1 q2 q3 q4 q5 q6 q7;clear hSw;go_simp;try with_reducible rfl):P:=h
theorem yq{P:Prop}(h:P:=by rw [hU.o];exact zh w _):P:=h
theorem yr{P:Prop}(h:P:=by intro w' hSw;obtain ⟨q0,q1,q2⟩:=hSw.cells;clear hSw;go_simp;try with_reducible rfl):P:=h
theorem yu{P:Prop}(h:P:=by simpa using e):P:=h
theorem yw{P:Prop}(h:P:=by rw [vW];omega):P:=h
theorem yA{P:Prop}(h:P:=by rw [hU];exact zh w _):P:=h
theorem yB{P:Prop}(h:P:=by rw [hn];simp):P:=h
theorem yC{P:Prop}(h:P:=by simpa using hj):P:=h
theorem yD{P:Prop}(h:P:=by intro w' hSw;have lk:=(t2.same hSw.2.2).look1 hwf;rw [hp] at lk;unfold mZ at lk;simp only [Zu] at lk;clear hSw;go_simp;try with_reducible rfl):P:=h
theorem yE{P:Prop}(h:P:=by cases e):P:=h
theorem yF{P:Prop}(h:P:=by simp [World.frozen?,hfl]):P:=h
theorem yG{P:Prop}(h:P:=by rw [hn2];simp):P:=h
theorem yH{P:Prop}(h:P:=by intro w' hSw;obtain ⟨e0,e1,e2⟩:=hSw;go_simp;try with_reducible rfl):P:=h
theorem yI{P:Prop}(h:P:=by intro w' hSw;have q9:=OpBlk.cells hSw.2;dsimp only at q9;obtain ⟨q0,q1,q2,q3,q4,q5,q6,q7,-⟩:=q9;clear hSw;go_simp;try with_reducible rfl):P:=h
theorem yJ{P:Prop}(h:P:=by rw [bX hk];simp [Nat.min_eq_left hi]):P:=h
theorem yK{P:Prop}(h:P:=by rw [e];exact hi):P:=h
theorem yL{P:Prop}(h:P:=by have:=hm.2.1;omega):P:=h
theorem yM{P:Prop}(h:P:=by have:=(A.o.new i hi).2 g hg;have:=A.o.hS.1;rw [e] at*;omega):P:=h
theorem yN{P:Prop}(h:P:=by have:=HB.o;omega):P:=h
theorem yO{P:Prop}(h:P:=by rw [<-hz,HX.o];unfold ltX;rw [hy1,hy2]):P:=h
theorem yP{P:Prop}(h:P:=by have e':k=S+1:=e;have:=HM.o.1.base;have:=H0.o.2.2.2;omega):P:=h
theorem yQ{P:Prop}(h:P:=by have:=H0.o.1.lt;omega):P:=h
theorem yR{P:Prop}(h:P:=by simpa using h):P:=h
theorem yS{P:Prop}(h:P:=by assumption):P:=h
theorem yT{P:Prop}(h:P:=by simp only [uD];omega):P:=h
theorem yU{P:Prop}(h:P:=by intro w' hSw;have j5:=(OpBlk.cells hSw.1).2.2.2.2.2.1;dsimp only at j5;clear hSw;go_simp;try with_reducible rfl):P:=h
theorem yV{P:Prop}(h:P:=by unfold gG;rw [if_pos hsh]):P:=h
theorem yW{P:Prop}(h:P:=by have:=((A.o.new i hi).1.lt g hg).2;have:=HP.o;omega):P:=h
theorem yX{P:Prop}(h:P:=by rw [vQ];exact h.frozenAt j):P:=h
theorem yY{P:Prop}(h:P:=by have:=H0.o.2.2.2;omega):P:=h
theorem yZ{P:Prop}(h:P:=by have:=AX.below;rw [HU.o.2.2.2] at this;exact this):P:=h
theorem qb{P:Prop}(h:P:=by simp<;>omega):P:=h
theorem qd{P:Prop}(h:P:=by rw [hw1];exact (vG w.heap.size w).alloc zg _):P:=h
theorem qe{P:Prop}(h:P:=by simp [go_sem]):P:=h
theorem qg{P:Prop}(h:P:=by rw [h0] at hr;cases hr):P:=h
theorem qh{P:Prop}(h:P:=by have:=HU.o.2.1;omega):P:=h
theorem qi{P:Prop}(h:P:=by simpa using hl):P:=h
theorem qj{P:Prop}(h:P:=by have:(⟨#[10]⟩:ByteArray).size=1:=rfl;omega):P:=h
theorem qk{P:Prop}(h:P:=by simp [World.cell?,hbx1]):P:=h
theorem ql{P:Prop}(h:P:=by have:=W1.o.size;simp;omega):P:=h
theorem qm{P:Prop}(h:P:=by have:=A.o.hS.2.1;rw [<-e,hcq] at this;omega):P:=h
theorem qo{P:Prop}(h:P:=by rw [hU,hS];exact (vP _ _ _ zt).trans (OpBlk.new w (t,b,m,kd,nd,o,s,v))):P:=h
theorem qp{P:Prop}(h:P:=by have:=A.o.len;omega):P:=h
theorem qq{P:Prop}(h:P:=by simp at h):P:=h
theorem qr{P:Prop}(h:P:=by have:=HI.o.len hr';omega):P:=h
theorem qt{P:Prop}(h:P:=by rw [hOwn] at e;have:=(hgP P e.symm).1;omega):P:=h
theorem qu{P:Prop}(h:P:=by unfold bK;rw [if_pos hsh]):P:=h
theorem qv{P:Prop}(h:P:=by simpa using hown):P:=h
theorem qw{P:Prop}(h:P:=by simpa using HR.o):P:=h
theorem qx{P:Prop}(h:P:=by have:=tr2.length_eq;have:=ZL GJ A;unfold bO at*;omega):P:=h
theorem qy{P:Prop}(h:P:=by simpa using hn):P:=h
theorem qz{P:Prop}(h:P:=by rw [hOwn] at e;exact (hgP S e.symm).2 rfl):P:=h
theorem qA{P:Prop}(h:P:=by have q':k=S+1:=q;have:=H0.o.2.2.2;omega):P:=h
theorem qB{P:Prop}(h:P:=by unfold fE;rw [if_pos hsh]):P:=h
theorem qC{P:Prop}(h:P:=by have:=HV.o.2.1.len;omega):P:=h
theorem qD{P:Prop}(h:P:=by cases h):P:=h
theorem qE{P:Prop}(h:P:=by simp at e):P:=h
theorem qF{P:Prop}(h:P:=by simpa using hi):P:=h
theorem qG{P:Prop}(h:P:=by simp [World.cell?,HA.o.2.2.2.2.1]):P:=h
theorem qH{P:Prop}(h:P:=by rw [ur,hxl]):P:=h
theorem qI{P:Prop}(h:P:=by unfold PlcAt at h;simp [World.cell?,h]):P:=h
theorem qJ{P:Prop}(h:P:=by simp [World.cell?,h.cell]):P:=h
theorem qK{P:Prop}(h:P:=by rw [hee,show mid+m - i - 1=mid+m - 1 - i by omega];exact ED.o.2 zj):P:=h
theorem qL{P:Prop}(h:P:=by rw [hp,hlv];simp;omega):P:=h
theorem qM{P:Prop}(h:P:=by obtain ⟨x,hx,_⟩:=Maps.keyOf_int_inv Tryz.underlying3 hk;exact ⟨x,hx⟩):P:=h
theorem qN{P:Prop}(h:P:=by rw [hv];simp):P:=h
theorem qO{P:Prop}(h:P:=by rw [dW];omega):P:=h
theorem qP{P:Prop}(h:P:=by intro w' hSw;have r7:=hSw.2.1.c7;clear hSw;go_simp;try with_reducible rfl):P:=h
theorem qQ{P:Prop}(h:P:=by rw [cH];omega):P:=h
theorem qR{P:Prop}(h:P:=by rw [size_flatK];omega):P:=h
theorem qS{P:Prop}(h:P:=by rw [hw1,hB];exact heap_alloc_new w _):P:=h
theorem qT{P:Prop}(h:P:=by intro w' hSw;have q1:=hSw.1.c0;clear hSw;go_simp;try with_reducible rfl):P:=h
theorem qU{P:Prop}(h:P:=by rw [decide_eq_false zj];rfl):P:=h
theorem qV{P:Prop}(h:P:=by intro w' hSw;have r6:=hSw.2.c6;clear hSw;go_simp;try with_reducible rfl):P:=h
theorem qW{P:Prop}(h:P:=by simp [Value.oneCell']):P:=h
theorem qX{P:Prop}(h:P:=by have:=Jw R hi;omega):P:=h
theorem qY{P:Prop}(h:P:=by rw [tW];exact k):P:=h
theorem qZ{P:Prop}(h:P:=by rw [hdl] at hj;omega):P:=h
theorem xa{P:Prop}(h:P:=by rw [TG.o p hp zj,TG.o q zj zj];exact hpq):P:=h
theorem xc{P:Prop}(h:P:=by simp [World.cell?,hu1]):P:=h
theorem xe{P:Prop}(h:P:=by simp [World.cell?,hS1]):P:=h
theorem xf{P:Prop}(h:P:=by rw [vQ];exact hc j u hj):P:=h
theorem xg{P:Prop}(h:P:=by have:=A.o.ne;have:=HP.o;omega):P:=h
theorem xh{P:Prop}(h:P:=by rw [List.take_take];congr 1;omega):P:=h
theorem xi{P:Prop}(h:P:=by unfold maxLen;omega):P:=h
theorem xj{P:Prop}(h:P:=by rw [e2] at hg;rw [e1];exact hg):P:=h
theorem xl{P:Prop}(h:P:=by rw [hdl,hmin];omega):P:=h
theorem xm{P:Prop}(h:P:=by unfold opE;rw [if_neg zj]):P:=h
theorem xp{P:Prop}(h:P:=by simpa using h1):P:=h
theorem xq{P:Prop}(h:P:=by rw [hw1];exact zh w _):P:=h
theorem xr{P:Prop}(h:P:=by rw [vR.1 hu];rfl):P:=h
theorem xu{P:Prop}(h:P:=by rw [hd1];exact Rot.none d i m e zj zj zj):P:=h
theorem xw{P:Prop}(h:P:=by rw [<-e];exact hg):P:=h
theorem xx{P:Prop}(h:P:=by have:=HS.o;omega):P:=h
theorem xz{P:Prop}(h:P:=by rw [e] at hkd;rcases hkd with k | k<;>exact absurd k zr):P:=h
theorem xA{P:Prop}(h:P:=by simp [cellsOf]):P:=h
theorem xB{P:Prop}(h:P:=by unfold bK;rw [if_neg hsh,if_neg yB,if_pos hv]):P:=h
theorem xC{P:Prop}(h:P:=by rw [vN,vN,htl,hv,hdl];omega):P:=h
theorem xD{P:Prop}(h:P:=by rw [Addr.add_lit,vQ,hWc];exact hOv _ u (hvs j u hj)):P:=h
theorem xE{P:Prop}(h:P:=by simp [hy]):P:=h
theorem xF{P:Prop}(h:P:=by rw [hown.1];omega):P:=h
theorem xG{P:Prop}(h:P:=by simp [h0]):P:=h
theorem xH{P:Prop}(h:P:=by have:=q.2.2;unfold idO at this;dsimp only at this;omega):P:=h
theorem xI{P:Prop}(h:P:=by have:=A2.o.below;rw [HU.o.2.2.2] at this;exact this):P:=h
theorem xJ{P:Prop}(h:P:=by have:=A1.o.below;rw [HU.o.2.2.2] at this;exact this):P:=h
theorem xK{P:Prop}(h:P:=by rw [HLN.o];exact HNN.o):P:=h
theorem xL{P:Prop}(h:P:=by rw [hw1];exact OpAt.new w t b n k node other name value 61):P:=h
theorem xM{P:Prop}(h:P:=by have:=HNQ.o.2.2.1;omega):P:=h
theorem xN{P:Prop}(h:P:=by have hb:=hbytes;simp only [vQ] at hb;omega):P:=h
theorem xO{P:Prop}(h:P:=by rw [hf];exact k):P:=h
theorem xP{P:Prop}(h:P:=by rw [hw1];simp):P:=h
theorem xQ{P:Prop}(h:P:=by simp [h]):P:=h
theorem xR{P:Prop}(h:P:=by have:=hp.1;simpa using this):P:=h
theorem xS{P:Prop}(h:P:=by rw [<-hOwn];exact hgrow):P:=h
theorem xU{P:Prop}(h:P:=by unfold gI;rw [if_pos hsh]):P:=h
theorem xV{P:Prop}(h:P:=by rw [hzb,hik];exact growslice_fits hroom zj):P:=h
theorem xW{P:Prop}(h:P:=by simp at hl):P:=h
theorem xX{P:Prop}(h:P:=by rw [HLN.o];exact hown):P:=h
theorem xY{P:Prop}(h:P:=by have e':k=S+1:=e;have:=HM.o.2.2.2.2.2.2.2.2.2;omega):P:=h
theorem xZ{P:Prop}(h:P:=by rw [Nat.succ_mul]):P:=h
theorem ja{P:Prop}(h:P:=by rw [ul,uv];exact h1):P:=h
theorem jb{P:Prop}(h:P:=by simp [World.cell?,hu1']):P:=h
theorem jc{P:Prop}(h:P:=by simp [mh] at h):P:=h
theorem jd{P:Prop}(h:P:=by cases q):P:=h
theorem je{P:Prop}(h:P:=by have:=(HV.o.2.1.later HB3.o).keep.size;omega):P:=h
theorem jf{P:Prop}(h:P:=by have:=HB.o.2.1;omega):P:=h
theorem jg{P:Prop}(h:P:=by rw [gK];exact hc):P:=h
theorem jh{P:Prop}(h:P:=by rw [gK];exact h8):P:=h
theorem ji{P:Prop}(h:P:=by simp [hd]):P:=h
theorem jj{P:Prop}(h:P:=by have:=htot.o;simp;omega):P:=h
theorem jk{P:Prop}(h:P:=by rw [<-HQN.o,<-HL.o];exact decide_eq_true hlv):P:=h
theorem jl{P:Prop}(h:P:=by cases hg):P:=h
theorem jm{P:Prop}(h:P:=by simp [q]):P:=h
theorem jo{P:Prop}(h:P:=by rw [hS.o];exact hB):P:=h
theorem jp{P:Prop}(h:P:=by cases e;exact ⟨vB _,hrg.iter_walk⟩):P:=h
theorem jq{P:Prop}(h:P:=by rw [Addr.add_lit,vQ];exact hvs j u hj):P:=h
theorem jr{P:Prop}(h:P:=by unfold ltX at*;rw [AP] at*;simp at*;omega):P:=h
theorem js{P:Prop}(h:P:=by show B<=B+1+1;omega):P:=h
theorem jt{P:Prop}(h:P:=by rw [<-e]):P:=h
theorem ju{P:Prop}(h:P:=by rw [hmin,hv]):P:=h
theorem jv{P:Prop}(h:P:=by rw [alloc_eq_grow,alloc_eq_grow,grow_grow];rfl):P:=h
theorem jw{P:Prop}(h:P:=by rw [hX.o];exact HB6.o.alloc HB6.o.size _):P:=h
theorem jx{P:Prop}(h:P:=by rw [cX cH hk zj];rfl):P:=h
theorem jy{P:Prop}(h:P:=by have:=h.2.2.2;omega):P:=h
theorem jz{P:Prop}(h:P:=by simp [ej]):P:=h
theorem jA{P:Prop}(h:P:=by simp [World.cell?,hd2]):P:=h
theorem jB{P:Prop}(h:P:=by simp [World.cell?,hYb]):P:=h
theorem jC{P:Prop}(h:P:=by unfold af;have:=HN.o.2.2.2.1;simp;omega):P:=h
theorem jD{P:Prop}(h:P:=by decide+kernel):P:=h
theorem jE{P:Prop}(h:P:=by have:=h.2.2.1;omega):P:=h
theorem jF{P:Prop}(h:P:=by rw [hU.o];exact (zh w _).alloc zt _):P:=h
theorem jG{P:Prop}(h:P:=by rw [hX.o,hQQ.o];exact OpBlk.new w6 aR):P:=h
theorem jH{P:Prop}(h:P:=by have:=A.o.2.1;omega):P:=h
theorem jI{P:Prop}(h:P:=by show B<=B+1;omega):P:=h
theorem jJ{P:Prop}(h:P:=by have:=A.o.1.2;omega):P:=h
theorem jK{P:Prop}(h:P:=by rw [hV];exact zh w1 _):P:=h
theorem jL{P:Prop}(h:P:=by have:=A.o;rw [hT.o] at this;exact this):P:=h
theorem jM{P:Prop}(h:P:=by rw [hD.o];simp [ByteArray.size,kk]):P:=h
theorem jN{P:Prop}(h:P:=by rw [hc _ _ zq];simp [go_sem]):P:=h
theorem jO{P:Prop}(h:P:=by rw [<-ci,ui]):P:=h
theorem jP{P:Prop}(h:P:=by rw [h.size];omega):P:=h
theorem jQ{P:Prop}(h:P:=by congr 1;omega):P:=h
theorem jR{P:Prop}(h:P:=by unfold TreeCell at h;simp [World.cell?,h]):P:=h
theorem jS{P:Prop}(h:P:=by rw [h0,hW1];exact heap_alloc_new w.drew _):P:=h
theorem jT{P:Prop}(h:P:=by rw [vN,hal,hdl];omega):P:=h
theorem jU{P:Prop}(h:P:=by have:=HH.o.2.1;have:=hp.length_eq;omega):P:=h
theorem jV{P:Prop}(h:P:=by have:=hk2.size;omega):P:=h
theorem jW{P:Prop}(h:P:=by rw [<-ah,ui]):P:=h
theorem jX{P:Prop}(h:P:=by simp [results,Tryz.results359,go_sem]):P:=h
theorem jY{P:Prop}(h:P:=by rw [hzm.o];exact decide_eq_false hk109):P:=h
theorem jZ{P:Prop}(h:P:=by rw [hW2];exact (Keeps.refl _ W1).alloc _):P:=h
theorem vd{P:Prop}(h:P:=by rw [e];rfl):P:=h
theorem ve{P:Prop}(h:P:=by rw [q];exact h.lowm):P:=h
theorem vf{P:Prop}(h:P:=by have:=HSw.o;omega):P:=h
theorem vg{P:Prop}(h:P:=by unfold World.ownsRow;rw [h0];exact hown):P:=h
theorem vh{P:Prop}(h:P:=by show U.cell? _=_;simp [World.cell?,hu1]):P:=h
theorem vi{P:Prop}(h:P:=by unfold wrap64;omega):P:=h
theorem vj{P:Prop}(h:P:=by show U.cell? _=_;simp [World.cell?,hu0]):P:=h
theorem vn{P:Prop}(h:P:=by rw [hzm.o];exact decide_eq_true hk109):P:=h
theorem vp{P:Prop}(h:P:=by rw [<-hTT.o];exact HA.o.1.symm):P:=h
theorem vr{P:Prop}(h:P:=by simp [Op.bytesLess]):P:=h
theorem zc{α:Sort _}(x:α):∃U,U=x:=⟨x,rfl⟩
theorem ze{α:Sort _}(x:α):∃U,Aside (U=x):=⟨x,rfl⟩
theorem zg{n:Nat}:n≤n:=Nat.le_refl n
theorem zh(w:World)(o:Obj):Below w.heap.size w (w.alloc o):=(Below.refl _ w).alloc (Nat.le_refl _) o
theorem zi{a b c:World}(h:Below a.heap.size a b)(k:Below b.heap.size b c):Below a.heap.size a c:=h.trans (k.mono h.size)
theorem vu{P:Prop}(h:P:=by have:=HD.out;rw [show k=s.size by omega,Do] at this;exact this.symm):P:=h
theorem vv{P:Prop}(h:P:=by rw [List.length_append,List.length_cons,HK.out.1,HK.out.2];omega):P:=h
theorem vw{P:Prop}(h:P:=by have:=HA.out;rw [hb,Bool.false_and] at this;exact this.symm):P:=h
theorem vx{P:Prop}(h:P:=by have e:P=p:=e;omega):P:=h
theorem vy{P:Prop}(h:P:=by have:=B7.out.2;omega):P:=h
theorem vz{P:Prop}(h:P:=by simp [results,Tryz.results203,go_sem,c0,c1]):P:=h
theorem vA:type_of%@List.getElem?_eq_some_iff:=@List.getElem?_eq_some_iff
theorem vB:type_of%@Nat.le_refl:=@Nat.le_refl
theorem vD:type_of%@Array.getElem?_eq_some_iff:=@Array.getElem?_eq_some_iff
theorem vF:type_of%@List.getElem?_eq_getElem:=@List.getElem?_eq_getElem
theorem vG:type_of%@Below.refl:=@Below.refl
theorem vH:type_of%@List.mem_of_getElem?:=@List.mem_of_getElem?
theorem vI:type_of%@Nat.le_trans:=@Nat.le_trans
theorem vJ:type_of%@List.mem_cons:=@List.mem_cons
theorem vK:type_of%@World.block_lt_of_cell?:=@World.block_lt_of_cell?
theorem vL:type_of%@List.mem_append:=@List.mem_append
theorem vM:type_of%@Nat.zero_le:=@Nat.zero_le
theorem vN:type_of%@List.length_append:=@List.length_append
theorem vO:type_of%@List.setIfInBounds_toArray:=@List.setIfInBounds_toArray
theorem vP:type_of%@Below.heap_alloc:=@Below.heap_alloc
theorem vQ:type_of%@Nat.zero_add:=@Nat.zero_add
theorem vR:type_of%@List.mem_singleton:=@List.mem_singleton
theorem vT:type_of%@List.take_of_length_le:=@List.take_of_length_le
theorem vV:type_of%@Nat.lt_of_lt_of_le:=@Nat.lt_of_lt_of_le
theorem vW:type_of%@List.length_take:=@List.length_take
theorem vX:type_of%@List.set_cons_zero:=@List.set_cons_zero
theorem vY:type_of%@List.set_cons_succ:=@List.set_cons_succ
theorem vZ:type_of%@List.length_eq_zero_iff:=@List.length_eq_zero_iff
theorem ub:type_of%@List.pairwise_iff_getElem:=@List.pairwise_iff_getElem
theorem uc:type_of%@World.cell?_of_block:=@World.cell?_of_block
theorem ud:type_of%@List.length_cons:=@List.length_cons
theorem uf:type_of%@World.ownsRow_nil:=@World.ownsRow_nil
theorem ug:type_of%@List.mem_cons_of_mem:=@List.mem_cons_of_mem
theorem uh:type_of%@List.mem_map:=@List.mem_map
theorem ui:type_of%@List.take_append_drop:=@List.take_append_drop
theorem uj:type_of%@List.append_assoc:=@List.append_assoc
theorem uk:type_of%@List.mem_append_left:=@List.mem_append_left
theorem ul:type_of%@List.length_map:=@List.length_map
theorem um:type_of%@List.pairwise_cons:=@List.pairwise_cons
theorem un:type_of%@List.map_append:=@List.map_append
theorem uq:type_of%@List.size_toArray:=@List.size_toArray
theorem ur:type_of%@List.length_drop:=@List.length_drop
theorem ut:type_of%@List.map_cons:=@List.map_cons
theorem uu:type_of%@List.mem_cons_self:=@List.mem_cons_self
theorem uv:type_of%@Array.length_toList:=@Array.length_toList
theorem uw:type_of%@World.cell?_alloc_lt:=@World.cell?_alloc_lt
theorem ux:type_of%@List.take_append_of_le_length:=@List.take_append_of_le_length
theorem uy:type_of%@ByteArray.toList_eq:=@ByteArray.toList_eq
theorem uz:type_of%@List.length_nil:=@List.length_nil
theorem uA:type_of%@List.take_add_one:=@List.take_add_one
theorem uB:type_of%@Nat.lt_or_ge:=@Nat.lt_or_ge
theorem uC:type_of%@Nat.mul_le_mul_right:=@Nat.mul_le_mul_right
theorem uD:type_of%@World.size_alloc:=@World.size_alloc
theorem uF:type_of%@List.take_succ_eq_append_getElem:=@List.take_succ_eq_append_getElem
theorem uG:type_of%@List.getElem?_map:=@List.getElem?_map
theorem uH:type_of%@List.nodup_append:=@List.nodup_append
theorem uI:type_of%@List.mem_append_right:=@List.mem_append_right
theorem uJ:type_of%@List.getElem_of_mem:=@List.getElem_of_mem
theorem uK:type_of%@List.drop_eq_getElem_cons:=@List.drop_eq_getElem_cons
theorem uL:type_of%@Bool.and_eq_true:=@Bool.and_eq_true
theorem uM:type_of%@Array.replicate_succ:=@Array.replicate_succ
theorem uN:type_of%@Array.replicate_zero:=@Array.replicate_zero
theorem uO:type_of%@List.append_toArray:=@List.append_toArray
theorem uP:type_of%@List.getElem?_drop:=@List.getElem?_drop
theorem uQ:type_of%@List.append_nil:=@List.append_nil
theorem uR:type_of%@List.nil_append:=@List.nil_append
theorem uS:type_of%@List.getElem_mem:=@List.getElem_mem
theorem uT:type_of%@Nat.add_assoc:=@Nat.add_assoc
theorem uU:type_of%@List.take_length:=@List.take_length
theorem uV:type_of%@List.push_toArray:=@List.push_toArray
theorem uX:type_of%@List.pairwise_append:=@List.pairwise_append
theorem uY:type_of%@Option.map_eq_some_iff:=@Option.map_eq_some_iff
theorem uZ:type_of%@Nat.add_zero:=@Nat.add_zero
theorem Za:type_of%@List.drop_of_length_le:=@List.drop_of_length_le
theorem Zb:type_of%@List.cons_append:=@List.cons_append
theorem Zc:type_of%@List.length_singleton:=@List.length_singleton
theorem Zd:type_of%@List.getElem?_take:=@List.getElem?_take
theorem Ze:type_of%@Array.getElem?_eq_none:=@Array.getElem?_eq_none
theorem Zf:type_of%@List.mem_iff_getElem?:=@List.mem_iff_getElem?
theorem Zg:type_of%@List.mem_of_mem_take:=@List.mem_of_mem_take
theorem Zh:type_of%@List.mem_of_mem_drop:=@List.mem_of_mem_drop
theorem Zi:type_of%@List.map_congr_left:=@List.map_congr_left
theorem Zj:type_of%@World.news_of_block:=@World.news_of_block
theorem Zk:type_of%@List.getElem?_set_self:=@List.getElem?_set_self
theorem Zl:type_of%@List.mem_filterMap:=@List.mem_filterMap
theorem Zm:type_of%@List.perm_append_comm:=@List.perm_append_comm
theorem Zn:type_of%@List.mem_filter:=@List.mem_filter
theorem Zo:type_of%@Bool.or_eq_true:=@Bool.or_eq_true
theorem Zp:type_of%@List.pairwise_map:=@List.pairwise_map
theorem Zq:type_of%@List.getElem_toArray:=@List.getElem_toArray
theorem Zr:type_of%@List.not_mem_nil:=@List.not_mem_nil
theorem Zs:type_of%@Nat.eq_zero_or_pos:=@Nat.eq_zero_or_pos
theorem Zt:type_of%@List.filter_append:=@List.filter_append
theorem Zu:type_of%@Option.map_some:=@Option.map_some
theorem Zv:type_of%@List.length_filter_le:=@List.length_filter_le
theorem Zw:type_of%@Nat.lt_trichotomy:=@Nat.lt_trichotomy
theorem Zx:type_of%@List.getElem?_set_ne:=@List.getElem?_set_ne
theorem Zy:type_of%@Array.getElem?_eq_getElem:=@Array.getElem?_eq_getElem
theorem Zz:type_of%@Nat.add_mul:=@Nat.add_mul
theorem ZA:type_of%@List.pairwise_singleton:=@List.pairwise_singleton
theorem ZB:type_of%@List.getElem_take:=@List.getElem_take
theorem ZC:type_of%@List.map_map:=@List.map_map
theorem ZD:type_of%@List.any_eq_true:=@List.any_eq_true
theorem ZE:type_of%@World.cell?_alloc_at:=@World.cell?_alloc_at
theorem ZF:type_of%@List.map_nil:=@List.map_nil
theorem ZG:type_of%@Nat.le_of_lt:=@Nat.le_of_lt
theorem ZH:type_of%@Nat.add_sub_cancel:=@Nat.add_sub_cancel
theorem ZI:type_of%@List.nodup_nil:=@List.nodup_nil
theorem ZJ:type_of%@List.getElem?_append_left:=@List.getElem?_append_left
theorem ZK:type_of%@List.sum_cons:=@List.sum_cons
theorem ZL:type_of%@List.length_filterMap_le:=@List.length_filterMap_le
theorem ZM:type_of%@World.cell?_setCells_out:=@World.cell?_setCells_out
theorem ZN:type_of%@Option.isSome_iff_exists:=@Option.isSome_iff_exists
theorem ZO:type_of%@Option.getD_some:=@Option.getD_some
theorem ZP:type_of%@World.frozen?_alloc_old:=@World.frozen?_alloc_old
theorem ZQ:type_of%@List.drop_eq_nil_of_le:=@List.drop_eq_nil_of_le
theorem ZR:type_of%@World.frozen?_setCells:=@World.frozen?_setCells
theorem ZS:type_of%@World.cell?_alloc_past:=@World.cell?_alloc_past
theorem ZT:type_of%@List.getElem_cons_succ:=@List.getElem_cons_succ
theorem ZW:type_of%@List.getElem_cons_zero:=@List.getElem_cons_zero
theorem ZY:type_of%@List.length_set:=@List.length_set
theorem ZZ:type_of%@List.set_getElem_self:=@List.set_getElem_self
