import Derived.WalkKit
import Derived.Deep.LoopGhost
import Derived.Deep.AppendLies
namespace Go
theorem Aside.o{p:Prop}(h:Aside p):p:=h
theorem RowKit.Hid.o{p:Prop}(h:RowKit.Hid p):p:=h
end Go
namespace Go.Proofs
open Go.RowKit
theorem kb3{P:Prop}(h:P:=by exact aL (b:=S+1) HER.o.2 yE 0 [.int .i64 t',.int .i64 b',.int .i64 m',.int .u8 (kd':Int),.int .i64 nd',.int .i64 o',.string s',.string v']):P:=h
theorem kb7{P:Prop}(h:P:=by
 obtain ⟨t,b,n,k,nd,o,s,v⟩:=x
 have h':opE t b n k nd o s.data.toList v.data.toList=0:=h
 obtain ⟨h1,h2,h3,h4,h5,h6,hk,h7,h8,h9,h10,-,hn,hv⟩:=ax h'
 have e1:=Lib.itoa_length_le t zj zj
 have e2:=Lib.itoa_length_le b zj zj
 have e3:=Lib.itoa_length_le n zj zj
 have e4:=Lib.itoa_length_le nd zj zj
 have e5:=Lib.itoa_length_le o zj zj
 have e6:=gN v.data.toList
 unfold aA dX
 simp only [eY,jP,jY,vw]
 omega):P:=h
theorem kb8{P:Prop}(h:P:=by
 rw [e2]
 exact (HI.o.fly (fun u hu=>by
      rcases jO.1 hu with q | q
      ·exact .inl q
      ·rw [jS.1 q]
       exact .inr ⟨fun y hy=>absurd hy (by show ¬(y∈([]:List OpX));simp),jX _⟩)).up zj):P:=h
theorem kb9{P:Prop}(h:P:=by
 refine ⟨jE,?_⟩
 exact aL (b:=SB+1) (Go.below_drewN HU.o.2.2.1 _).drew qg 0 [.int .i64 0,.int .i64 0,.int .i64 0,.int .u8 105,.int .i64 y,.int .i64 ((k % 5:Nat):Int),.string ⟨#[]⟩,.string ⟨#[lt]⟩]):P:=h
theorem kc2{P:Prop}(h:P:=by exact (aL (b:=S) H1.o.2.1 yc 0 [.int .i64 0,.int .i64 0,.int .i64 0,.int .u8 0,.int .i64 0,.int .i64 0,.string ⟨#[]⟩,.string ⟨#[]⟩]).drew):P:=h
theorem kc5{P:Prop}(h:P:=by
 unfold StpBlk at h1
 unfold OpBlk at h2
 rw [e,h2] at h1
 exact absurd (congrArg (fun o:Option Obj=>match o with | some (.cells c _ _)=>c.size | _=>0) h1) zq):P:=h
theorem kc6{P:Prop}(h:P:=by
 have:=hp.2.2
 simp only [Array.toList_extract] at this
 rw [List.extract_eq_take_drop,List.extract_eq_take_drop,List.drop_zero,List.drop_zero,Nat.sub_zero,vm (by simp [hsz]),vm zq] at this
 exact this):P:=h
theorem kc8{P:Prop}(h:P:=by
 rw [vL] at this
 exact this):P:=h
theorem kd0{P:Prop}(h:P:=by
 have X:=Runs.cut V.swo HR.o zj zj zj zj HLO.o HHI.o RT
 rw [show i+(e - m)=mid by omega] at X
 exact X):P:=h
theorem kd2{P:Prop}(h:P:=by
 have hlt:=(jI.1 hj).1
 rw [<-htake,uf,if_pos zj] at hj
 simp [World.cell?,hgb,<-hj]):P:=h
theorem kd3{P:Prop}(h:P:=by
 simp only [Lib.join_length,Lib.lens,vJ,uB,jY,vw,List.sum_cons,List.sum_nil]
 omega):P:=h
theorem kd4{P:Prop}(h:P:=by
 have hgk:g≠k:=fun e=>hs e.symm
 simp only [sortWorldK,putRowK,putRow,mapBlock,Sort.ahead,grow]
 rw [Array.getElem?_append_left (by simpa using hk)]
 simp [Array.getElem?_modify,hgk]):P:=h
theorem kd5{P:Prop}(h:P:=by
 have hWs:W.heap.size=w.heap.size+1:=by rw [h0,hW1];simp
 exact ⟨_,rfl,Ab hgW hY hRs hbase hGn hGm zj hxl hv,⟨k1.os.trans h2,k1.tape.trans h3,k1.output.trans h4,by have:=k1.size;omega,fun k hk hs=>by
    refine (k1.block k zj zj).trans ?_
    rw [h0,hW1]
    exact jV w.drew _ k hk⟩,.inr rfl⟩):P:=h
theorem kd6{P:Prop}(h:P:=by
 have hp:=bG hs
 have hnd:ys.Nodup:=hp.1.nodup_iff.2 hR.num.nodup
 refine AV hp.2 ?_
 rw [vO]
 intro i j hi hj hij e
 have:=hR.well.stamp (hp.1.mem_iff.1 (List.getElem_mem hi)) (hp.1.mem_iff.1 (List.getElem_mem hj)) e
 exact absurd this (vO.1 hnd i j hi hj hij)):P:=h
theorem kd7{P:Prop}(h:P:=by exact aL (b:=S) B2.o yc 0 [.int .i64 t,.int .i64 b,.int .i64 m,.int .u8 (kd:Int),.int .i64 nd',.int .i64 o,.string s,.string v]):P:=h
theorem ke1{P:Prop}(h:P:=by
 rw [<-HB.o]
 exact hBW.trans (belowK_b (w:=w) zj W D _ _ yr hK rfl rfl)):P:=h
theorem kf1{P:Prop}(h:P:=by
 exact ⟨_,rfl,tE hownW hroom zj hv,⟨k1.os.trans h2,k1.tape.trans h3,k1.output.trans h4,by rw [<-h0];exact k1.size,fun k hk hs=>by
    rw [<-h0]
    exact k1.block k (by rw [h0];exact hk) (fun e=>hs jH)⟩,.inl rfl⟩):P:=h
theorem kf3{P:Prop}(h:P:=by
 refine ⟨jE,?_⟩
 exact aL (b:=SB+1) (Go.below_drewN HU.o.2.2.1 _) qg 0 [.int .i64 0,.int .i64 0,.int .i64 0,.int .u8 109,.int .i64 0,.int .i64 x,.string ⟨#[lt]⟩,.string ⟨#[]⟩]):P:=h
theorem kf6{P:Prop}(h:P:=by rw [hb.cell (p:=⟨b,o,none⟩) (jR w ⟨b,o,none⟩ h)];exact h):P:=h
theorem kf8{P:Prop}(h:P:=by
 refine (IE w zj hm hI hE hi).mono ?_
 rintro e w' ⟨K',D',st',rfl,H⟩
 exact ⟨K',D',st',rfl,hnext w' gd K' st' [] _ H.o.2.1 (fun k o e=>e) H.o.1 (fun k q=>q.elim),H.o.2.1,H.o.2.2.1,H.o.2.2.2.2⟩):P:=h
theorem kg1{P:Prop}(h:P:=by
 rw [if_pos hw] at this
 exact .inl this):P:=h
theorem kg2{P:Prop}(h:P:=by
 have q1:0<=x.2.2.2.2.1:=q.2.2.2.2.2.2.2.1
 have q2:x.2.2.2.2.1<=x.1*4+x.2.1:=q.2.2.2.2.2.2.2.2.1
 have q3:x.1<=1073741824:=q.2.1
 have q4:x.2.1<4:=q.2.2.2.1
 omega):P:=h
theorem kg3{P:Prop}(h:P:=by
 rw [hU,hS,jV _ _ _ zq]
 exact heap_alloc_new w _):P:=h
theorem kg4{P:Prop}(h:P:=by exact ((((((((B1.setCell zq _).setCell zq _).setCell zq _).setCell zq _).setCell zq _).setCell zq _).setCell zq _).setCell zq _).drew):P:=h
theorem kg5{P:Prop}(h:P:=by exact (aL (b:=S) HX.o.2.1 yc 0 [.int .i64 0,.int .i64 0,.int .i64 0,.int .u8 0,.int .i64 0,.int .i64 0,.string ⟨#[]⟩,.string ⟨#[]⟩]).drew):P:=h
theorem kg6{P:Prop}(h:P:=by
 rw [vM]
 refine ⟨hR.num.nodup,hF.one.imp (fun {a b} h e=>h (by rw [e];exact ⟨rfl,rfl⟩)),fun a ha b hb e=> ?_⟩
 subst e
 exact hF.off a hb a ha ⟨rfl,rfl⟩):P:=h
theorem kg7{P:Prop}(h:P:=by exact (((((((B1.setCell zq _).setCell zq _).setCell zq _).setCell zq _).setCell zq _).setCell zq _).setCell zq _).setCell zq _):P:=h
theorem kg8{P:Prop}(h:P:=by rcases hv with rfl | rfl | rfl | rfl | rfl | rfl | rfl | rfl<;>rfl):P:=h
theorem kg9{P:Prop}(h:P:=by exact aL (b:=S+1) B7.o.1 jF 0 [.int .i64 0,.int .i64 0,.int .i64 0,.int .u8 0,.int .i64 0,.int .i64 0,.string ⟨#[]⟩,.string ⟨#[]⟩]):P:=h
theorem kh0{P:Prop}(h:P:=by
 rintro e w' ⟨rfl,hb⟩
 exact ⟨rfl,ActOk.of_below hT hb⟩):P:=h
theorem kh1{P:Prop}(h:P:=by
 unfold cL
 rw [List.getD_eq_getElem?_getD,jK zj]
 rfl):P:=h
theorem kh3{P:Prop}(h:P:=by
 rw [hr] at hrun
 simp only [Result.ok.injEq] at hrun
 right
 rw [<-hrun.1,<-hrun.2]
 exact ⟨rfl,rfl,rfl,rfl,zq,fun k hk _=>jV w.drew _ k hk⟩):P:=h
theorem kh4{P:Prop}(h:P:=by exact h.two _ _ zj zj zj):P:=h
theorem kh5{P:Prop}(h:P:=by rw [if_neg zj,if_neg zj]):P:=h
theorem kh6{P:Prop}(h:P:=by
 rw [if_neg hw] at this
 exact this):P:=h
theorem kh7{P:Prop}(h:P:=by
 rw [hmin] at this
 exact this):P:=h
theorem kh8{P:Prop}(h:P:=by
 have e1:IntKind.i64.min= -2^63:=zo
 have e2:IntKind.i64.max=2^63 - 1:=zo
 simp only [Lit.wf,e1,e2,uk,decide_eq_true_eq]
 omega):P:=h
theorem kh9{P:Prop}(h:P:=by exact absurd ⟨⟨zj,zj⟩,⟨zj,zj⟩,zj,q⟩ hn):P:=h
theorem ki0{P:Prop}(h:P:=by exact ⟨rfl,rfl⟩):P:=h
theorem ki1{P:Prop}(h:P:=by exact ⟨⟨_,rfl,_,rfl,DR _ _ _ _⟩,((H3.o.1.below.alloc H3.o.1.below.size _).alloc (by simp;have:=H3.o.1.below.size;omega) _).drew⟩):P:=h
theorem ki3{P:Prop}(h:P:=by
 subst hv
 subst h0
 exact run_convert_bytes_back w _ _ _ _ _ [] Tryz.underlying184 Tryz.underlying5 Tryz.underlying9 (fun j hj=>by simp at hj)):P:=h
theorem ki7{P:Prop}(h:P:=by exact .inr ⟨e.1,⟨e.2.os,e.2.tape,e.2.output,e.2.size,e.2.block⟩⟩):P:=h
theorem ki8{P:Prop}(h:P:=by
 have hkp:=aY b [.int .u8 hd] j wr
 exact A.o.2.2.trans (hkp.below A.o.2.2.size (fun q e=>by have:=hb.o;omega))):P:=h
theorem ki9{P:Prop}(h:P:=by exact h.one _ _ zj zj zj):P:=h
theorem kj1{P:Prop}(h:P:=by exact .inr ⟨b,o,(Value.slice.inj q1).1,q2⟩):P:=h
theorem kj2{P:Prop}(h:P:=by
 have e:(m.1,d)=m:=by simpa using hd
 have e2:d=m.2:=by rw [<-e]
 rw [e2]
 exact dJ):P:=h
theorem kj3{P:Prop}(h:P:=by
 rw [e] at this
 exact absurd this dJ):P:=h
theorem kj4{P:Prop}(h:P:=by
 have hc:c≠p:=fun e=>h (by simp [e])
 have:=ih (fun hm=>h (by simp [hm]))
 simp [dL p c _ hc,this,hd]):P:=h
theorem kj5{P:Prop}(h:P:=by
 have:=of_decide_eq_true hq
 obtain ⟨rfl,rfl,rfl,rfl,rfl,rfl,rfl,rfl⟩:=this
 rfl):P:=h
theorem kj6{P:Prop}(h:P:=by
 rintro e w' ⟨rfl,rfl⟩
 exact ⟨rfl,jN _ _⟩):P:=h
theorem kj7{P:Prop}(h:P:=by
 dsimp only
 rw [if_pos rfl]
 exact .inl ⟨rfl,rfl,rfl,hok,.inl ⟨rfl,by rw [Dv,hB]⟩⟩):P:=h
theorem kj8{P:Prop}(h:P:=by rw [hW1,World.cell?_alloc_at (w:=w.drew) ROW _ w.heap.size j rfl,vG zj];rfl):P:=h
theorem kj9{P:Prop}(h:P:=by
 subst hv
 exact run_convert_bytes_nil w _ _ Tryz.underlying184 Tryz.underlying5 0 0 _ Tryz.underlying9):P:=h
theorem kk0{P:Prop}(h:P:=by have:=h k hk;rw [hf] at this;exact this z):P:=h
theorem kk1{P:Prop}(h:P:=by simp [sortWorldK,putRowK,putRow,mapBlock,Sort.ahead,grow]):P:=h
theorem kk2{P:Prop}(h:P:=by
 simp only [results,h]
 simp [Sem.run_bind,Result.andThen]):P:=h
theorem kk3{P:Prop}(h:P:=by exact .inr ⟨g,cap,cur,rfl,h1,(hs g rfl).trans hg,h2⟩):P:=h
theorem kk4{P:Prop}(h:P:=by
 rw [hg] at e1
 cases e1
 rw [vL];omega):P:=h
theorem kk7{P:Prop}(h:P:=by
 obtain ⟨⟨D,⟨es,clock,hb,F⟩,r⟩,g⟩:=h
 exact ⟨⟨D,⟨es,clock,e.trans hb,F⟩,r⟩,g⟩):P:=h
theorem kk8{P:Prop}(h:P:=by
 rintro D c pre W _ _ h _
 exact h.elim):P:=h
theorem kk9{P:Prop}(h:P:=by rw [LB zj zj zj];exact MB D hD s w zj zj zj):P:=h
theorem kl0{P:Prop}(h:P:=by have:=h k hk;rw [hf] at this;exact this):P:=h
theorem kl1{P:Prop}(h:P:=by
 rw [<-HB.o]
 exact ownsRow_putObj hrow _ hK rfl):P:=h
theorem kl2{P:Prop}(h:P:=by rw [aK _ _ q,aK _ _ q];exact h.disk r hr):P:=h
theorem kl4{P:Prop}(h:P:=by
 have:b= []:=ve.1 zj
 subst this
 simp only [mi,rT]):P:=h
theorem kl5{P:Prop}(h:P:=by
 rw [hROW]
 simp only [Array.size_append,vu,htl,size_zeroCells,hZs]
 omega):P:=h
theorem kl6{P:Prop}(h:P:=by exact .inl ⟨g,cp,by unfold kvs;rw [HLN.o,HAO.o];exact e1,by rw [HLN.o];exact e2⟩):P:=h
theorem kl7{P:Prop}(h:P:=by exact ⟨(if_neg hk).trans q.1,hk⟩):P:=h
theorem kl8{P:Prop}(h:P:=by
 obtain rfl:j=k:=zj
 rw [hl.o] at e
 cases e
 exact HQ.o):P:=h
theorem kl9{P:Prop}(h:P:=by simp [World.cell?,h]):P:=h
theorem km0{P:Prop}(h:P:=by exact ⟨by rw [a2,b2],hS⟩):P:=h
theorem km1{P:Prop}(h:P:=by exact fun z=>atKey_put_same hD (show WideAt.IsKeyLit (.int .i64 x) from trivial) _ _):P:=h
theorem km2{P:Prop}(h:P:=by
 obtain ⟨D,⟨es,clock,hb,F⟩,r⟩:=h
 exact ⟨D,⟨es,clock,e.trans hb,F⟩,r⟩):P:=h
theorem km3{P:Prop}(h:P:=by refine ⟨?_,?_,?_,?_,?_,?_,?_,?_,fun c=> ?_⟩<;>simp [World.cell?,World.frozen?,h]):P:=h
theorem km4{P:Prop}(h:P:=by
 rw [hr] at hrun
 simp only [Result.ok.injEq] at hrun
 right
 rw [<-hrun.1]
 rfl):P:=h
theorem km6{P:Prop}(h:P:=by
 have:=congrArg (List.drop 1) h.rest
 simpa [List.drop_drop,Nat.add_comm] using this):P:=h
theorem km7{P:Prop}(h:P:=by
 rintro ⟨x,hx,k1,k2,k3⟩
 exact ⟨x,by rw [<-k3];exact AF h hx,k1,k2⟩):P:=h
theorem km8{P:Prop}(h:P:=by
 rintro ⟨x,e,k1,k2⟩
 rw [hf] at e
 cases e
 exact ⟨k1,k2⟩):P:=h
theorem kn0{P:Prop}(h:P:=by
 rintro ⟨x,hx,k1,k2⟩
 obtain ⟨a,b⟩:=nz hx
 exact ⟨x,a,k1,k2,b⟩):P:=h
theorem kn1{P:Prop}(h:P:=by
 rw [iT zj]
 exact hk.mono (fun z hz=>vf _ hz)):P:=h
theorem kn2{P:Prop}(h:P:=by
 show Ending.returned v2=_
 rw [e1];rfl):P:=h
theorem kn3{P:Prop}(h:P:=by simpa using this):P:=h
theorem kn4{P:Prop}(h:P:=by subst hji;exact hy.wpOp hi (hTw listed w hS hz) ⟨hS.imp id iM,H⟩):P:=h
theorem kn5{P:Prop}(h:P:=by
 obtain ⟨rfl,rfl,rfl⟩:=h
 rfl):P:=h
theorem kn6{P:Prop}(h:P:=by rw [hp.2.1 i (.inl zj),hp.2.1 j (.inl h1)];exact h.done i j hij h1 hsm):P:=h
theorem kn7{P:Prop}(h:P:=by exact LC _ zj):P:=h
theorem kn8{P:Prop}(h:P:=by refine ⟨?_,?_,?_,?_,fun c=> ?_⟩<;>simp [World.cell?,World.frozen?,this]):P:=h
theorem kn9{P:Prop}(h:P:=by exact .inl (ve.1 h2)):P:=h
theorem ko0{P:Prop}(h:P:=by exact Bool.noConfusion (hd.symm.trans hx)):P:=h
theorem ko1{P:Prop}(h:P:=by exact ⟨y,vf _ hy,q⟩):P:=h
theorem ko2{P:Prop}(h:P:=by rw [un hlt,(jI.1 hx.o).2]):P:=h
theorem ko3{P:Prop}(h:P:=by
 clear hK K
 refine wpAnyH_done zk ?_ _
 exact FIN.o):P:=h
theorem ko4{P:Prop}(h:P:=by exact ⟨List.mem_of_find?_eq_some h,by simpa using List.find?_some h⟩):P:=h
theorem ko5{P:Prop}(h:P:=by intro hx;have:=up _ _ hx;omega):P:=h
theorem zj{P:Prop}(h:P:=by omega):P:=h
theorem zk{P:Prop}(h:P:=by kernel_rfl):P:=h
theorem zl{P:Prop}(h:P:=by simp;omega):P:=h
theorem zm{P:Prop}(h:P:=by intro w' hSw;have q9:=OpBlk.cells hSw.2;dsimp only at q9;obtain ⟨q0,q1,q2,q3,q4,q5,q6,q7,-⟩:=q9;clear hSw;go_simp;try with_reducible rfl):P:=h
theorem zo{P:Prop}(h:P:=by decide):P:=h
theorem zq{P:Prop}(h:P:=by simp):P:=h
theorem zr{P:Prop}(h:P:=by rw [IntKind.wrap_i64];omega):P:=h
theorem zt{P:Prop}(h:P:=by rfl):P:=h
theorem zu{P:Prop}(h:P:=by simp only [maxLen];omega):P:=h
theorem zv{P:Prop}(h:P:=by intro w' hSw;obtain ⟨q0,q1,q2⟩:=hSw.cells;clear hSw;go_simp;try with_reducible rfl):P:=h
theorem zw{P:Prop}(h:P:=by intro w' hSw;obtain ⟨k0,k1,k2,k3,k4,k5⟩:=hSw;go_simp;try with_reducible rfl):P:=h
theorem zA{P:Prop}(h:P:=by intro w' hSw;obtain ⟨j0,j1,j2,j3,j4,j5,j6,j7,-⟩:=OpBlk.cells hSw.1;dsimp only at j0 j1 j2 j3 j4 j5 j6 j7;clear hSw;go_simp;try with_reducible rfl):P:=h
theorem zB{P:Prop}(h:P:=by intro w' hSw;have q1:=hSw.1.c0;clear hSw;go_simp;try with_reducible rfl):P:=h
theorem zD{P:Prop}(h:P:=by intro w' hSw;obtain ⟨j0,j1,j2,j3,j4,j5,j6,j7,-⟩:=OpBlk.cells hSw;dsimp only at j0 j1 j2 j3 j4 j5 j6 j7;go_simp;try with_reducible rfl):P:=h
theorem zF{P:Prop}(h:P:=by intro w' hSw;obtain ⟨k1,k2,k3,k4⟩:=hSw;go_simp;try with_reducible rfl):P:=h
theorem zG{P:Prop}(h:P:=by intro w' hSw;obtain ⟨k0,k1,k2⟩:=hSw;go_simp;try with_reducible rfl):P:=h
theorem zH{P:Prop}(h:P:=by rw [hU];exact (zh w _).alloc zq _):P:=h
theorem zI{P:Prop}(h:P:=by go_num):P:=h
theorem zJ{P:Prop}(h:P:=by rw [decide_eq_false_iff_not];omega):P:=h
theorem zK{P:Prop}(h:P:=by simp [World.cell?,Z4]):P:=h
theorem zL{P:Prop}(h:P:=by unfold RepCell at h;simp [World.cell?,h]):P:=h
theorem zM{P:Prop}(h:P:=by rw [beq_eq_false_iff_ne];omega):P:=h
theorem zN{P:Prop}(h:P:=by rw [hU];exact zh w _):P:=h
theorem zO{P:Prop}(h:P:=by dsimp only;omega):P:=h
theorem zP{P:Prop}(h:P:=by simp at hx):P:=h
theorem zQ{P:Prop}(h:P:=by rw [hU,hS];exact (jV _ _ _ zq).trans (KBox.new w ao cap R)):P:=h
theorem zR{P:Prop}(h:P:=by intro w' hSw;have j4:=(OpBlk.cells hSw.1).2.2.2.2.1;dsimp only at j4;clear hSw;go_simp;try with_reducible rfl):P:=h
theorem zT{P:Prop}(h:P:=by have:=(H3.o.1.new i hi).1.alloc (.cells #[.int .i64 t,.int .i64 (i:Int),.int .i64 n,.int .u8 (kd:Int),.int .i64 nd,.int .i64 o,.string s,.string v] 61);unfold kvs at this;rw [HLN.o,HAO.o] at this;exact this):P:=h
theorem zV{P:Prop}(h:P:=by first | rfl | (congr 1;omega)):P:=h
theorem zW{P:Prop}(h:P:=by obtain ⟨Bx,f1,f2,f3⟩:=hs;exact ⟨Bx,f1,bM f2 hg hr,f3⟩):P:=h
theorem zX{P:Prop}(h:P:=by simp only [Nat.min_def];split<;>omega):P:=h
theorem zY{P:Prop}(h:P:=by unfold cQ;omega):P:=h
theorem zZ{P:Prop}(h:P:=by simp [Act.eval,Act.put]):P:=h
theorem ya{P:Prop}(h:P:=by rw [hn];simp):P:=h
theorem yb{P:Prop}(h:P:=by intro w' hSw;have q2:=hSw.2;rw [hy.o] at q2;obtain ⟨q0,q1,q2,q3,q4,q5,q6,q7,-⟩:=OpBlk.cells q2;dsimp only at q0 q1 q2 q3 q4 q5 q6 q7;clear hSw;go_simp;try with_reducible rfl):P:=h
theorem yc{P:Prop}(h:P:=by have:=H0.o.2.2.2.1;omega):P:=h
theorem ye{P:Prop}(h:P:=by simp [go_sem]):P:=h
theorem yg{P:Prop}(h:P:=by rw [hU.o];exact zh w _):P:=h
theorem yh{P:Prop}(h:P:=by rw [e];exact hi):P:=h
theorem yi{P:Prop}(h:P:=by intro w' hSw;have lk:=(t2.same hSw.2.2).look1 hwf;rw [hp] at lk;unfold kZ at lk;simp only [uo] at lk;clear hSw;go_simp;try with_reducible rfl):P:=h
theorem yj{P:Prop}(h:P:=by simpa using hj):P:=h
theorem yk{P:Prop}(h:P:=by have:=li R hi;omega):P:=h
theorem yl{P:Prop}(h:P:=by rw [hU,hS];exact OpBlk.new w aT):P:=h
theorem ym{P:Prop}(h:P:=by simpa using e):P:=h
theorem yn{P:Prop}(h:P:=by rw [aa hk];simp [Nat.min_eq_left hi]):P:=h
theorem yo{P:Prop}(h:P:=by simp [results,Tryz.results351,go_sem,c0,c1,c2,c3,c4,c5,c6,c7]):P:=h
theorem yq{P:Prop}(h:P:=by have:=(A.o.new i hi).2 g hg;have:=A.o.hS.1;rw [e] at*;omega):P:=h
theorem yr{P:Prop}(h:P:=by have:=HB.o;omega):P:=h
theorem yt{P:Prop}(h:P:=by have e':k=S+1:=e;have:=HM.o.1.base;have:=H0.o.2.2.2;omega):P:=h
theorem yu{P:Prop}(h:P:=by rw [hs.o] at e2;exact ⟨rfl,rfl,.inl ⟨h30,rfl,e2⟩⟩):P:=h
theorem yv{P:Prop}(h:P:=by simp [World.cell?,hv2]):P:=h
theorem yw{P:Prop}(h:P:=by simp only [vL];omega):P:=h
theorem yA{P:Prop}(h:P:=by unfold maxLen;omega):P:=h
theorem yB{P:Prop}(h:P:=by have:=((A.o.new i hi).1.lt g hg).2;have:=HP.o;omega):P:=h
theorem yC{P:Prop}(h:P:=by intro w' hSw;have j5:=(OpBlk.cells hSw.1).2.2.2.2.2.1;dsimp only at j5;clear hSw;go_simp;try with_reducible rfl):P:=h
theorem yD{P:Prop}(h:P:=by rw [vh];exact h.frozenAt j):P:=h
theorem yE{P:Prop}(h:P:=by have:=H0.o.2.2.2;omega):P:=h
theorem yF{P:Prop}(h:P:=by have:=AX.below;rw [HU.o.2.2.2] at this;exact this):P:=h
theorem yG{P:Prop}(h:P:=by simp<;>omega):P:=h
theorem yH{P:Prop}(h:P:=by rw [hw1];exact (jN w.heap.size w).alloc zg _):P:=h
theorem yI{P:Prop}(h:P:=by decide+kernel):P:=h
theorem yJ{P:Prop}(h:P:=by simpa using hl):P:=h
theorem yK{P:Prop}(h:P:=by rw [h0] at hr;cases hr):P:=h
theorem yL{P:Prop}(h:P:=by rw [hS.o];exact jL _):P:=h
theorem yM{P:Prop}(h:P:=by have:=hs.o;omega):P:=h
theorem yN{P:Prop}(h:P:=by have:=A.o.hS.2.1;rw [<-e,hcq] at this;omega):P:=h
theorem yO{P:Prop}(h:P:=by rw [hU,hS];exact (jV _ _ _ zq).trans (OpBlk.new w (t,b,m,kd,nd,o,s,v))):P:=h
theorem yP{P:Prop}(h:P:=by rw [vx];omega):P:=h
theorem yQ{P:Prop}(h:P:=by have:=HPL.o;omega):P:=h
theorem yR{P:Prop}(h:P:=by have:=HI.o.len hr';omega):P:=h
theorem yS{P:Prop}(h:P:=by rw [hOwn] at e;have:=(hgP P e.symm).1;omega):P:=h
theorem yT{P:Prop}(h:P:=by simpa using HR.o):P:=h
theorem yU{P:Prop}(h:P:=by have:=tr2.length_eq;have:=uW OH A;unfold eu at*;omega):P:=h
theorem yV{P:Prop}(h:P:=by simpa using hn):P:=h
theorem yW{P:Prop}(h:P:=by rw [hOwn] at e;exact (hgP S e.symm).2 rfl):P:=h
theorem yX{P:Prop}(h:P:=by have q':k=S+1:=q;have:=H0.o.2.2.2;omega):P:=h
theorem yY{P:Prop}(h:P:=by simp at h):P:=h
theorem yZ{P:Prop}(h:P:=by unfold PlcAt at h;simp [World.cell?,h]):P:=h
theorem qa{P:Prop}(h:P:=by rw [vx,hxl]):P:=h
theorem qb{P:Prop}(h:P:=by simp [World.cell?,HA.o.2.2.2.2.1]):P:=h
theorem qd{P:Prop}(h:P:=by rw [hee,show mid+m - i - 1=mid+m - 1 - i by omega];exact ED.o.2 zj):P:=h
theorem qe{P:Prop}(h:P:=by obtain ⟨x,hx,_⟩:=Maps.keyOf_int_inv Tryz.underlying3 hk;exact ⟨x,hx⟩):P:=h
theorem qg{P:Prop}(h:P:=by have:=HU.o.2.1;omega):P:=h
theorem qh{P:Prop}(h:P:=by rw [e2,jP];simp;omega):P:=h
theorem qi{P:Prop}(h:P:=by rw [bO];exact h8):P:=h
theorem qj{P:Prop}(h:P:=by assumption):P:=h
theorem qk{P:Prop}(h:P:=by intro w' hSw;have r7:=hSw.2.1.c7;clear hSw;go_simp;try with_reducible rfl):P:=h
theorem ql{P:Prop}(h:P:=by rw [cF];omega):P:=h
theorem qm{P:Prop}(h:P:=by rw [size_flatK];omega):P:=h
theorem qo{P:Prop}(h:P:=by rw [hw1,hB];exact heap_alloc_new w _):P:=h
theorem qp{P:Prop}(h:P:=by rw [ci];omega):P:=h
theorem qq{P:Prop}(h:P:=by show (1:Nat)<=60;omega):P:=h
theorem qr{P:Prop}(h:P:=by intro w' hSw;have q1:=hSw.1.c1;clear hSw;go_simp;try with_reducible rfl):P:=h
theorem qt{P:Prop}(h:P:=by simp [Value.oneCell']):P:=h
theorem qu{P:Prop}(h:P:=by cases e):P:=h
theorem qv{P:Prop}(h:P:=by rw [decide_eq_false zj];rfl):P:=h
theorem qw{P:Prop}(h:P:=by intro w' hSw;have r6:=hSw.2.c6;clear hSw;go_simp;try with_reducible rfl):P:=h
theorem qx{P:Prop}(h:P:=by rw [hdl] at hj;omega):P:=h
theorem qy{P:Prop}(h:P:=by simpa using h):P:=h
theorem qz{P:Prop}(h:P:=by simp [World.cell?,hu1]):P:=h
theorem qA{P:Prop}(h:P:=by rw [TG.o p hp zj,TG.o q zj zj];exact hpq):P:=h
theorem qB{P:Prop}(h:P:=by simp [World.cell?,hS1]):P:=h
theorem qC{P:Prop}(h:P:=by rw [vh];exact hc j u hj):P:=h
theorem qD{P:Prop}(h:P:=by rw [e2] at hg;rw [e1];exact hg):P:=h
theorem qE{P:Prop}(h:P:=by rw [hdl,hmin];omega):P:=h
theorem qF{P:Prop}(h:P:=by have:=A.o.ne;have:=HP.o;omega):P:=h
theorem qG{P:Prop}(h:P:=by rw [uR];congr 1;omega):P:=h
theorem qH{P:Prop}(h:P:=by intro w' hSw;have q1:=hSw;clear hSw;go_simp;try with_reducible rfl):P:=h
theorem qI{P:Prop}(h:P:=by cases hg):P:=h
theorem qJ{P:Prop}(h:P:=by rw [<-e];exact hg):P:=h
theorem qK{P:Prop}(h:P:=by have:=HS.o;omega):P:=h
theorem qL{P:Prop}(h:P:=by rw [hd1];exact Rot.none d i m e zj zj zj):P:=h
theorem qM{P:Prop}(h:P:=by rw [e] at hkd;rcases hkd with k | k<;>exact absurd k zo):P:=h
theorem qN{P:Prop}(h:P:=by rw [hsz];exact jL _):P:=h
theorem qO{P:Prop}(h:P:=by unfold cR;rw [if_neg hsh,if_neg ya,if_pos hv]):P:=h
theorem qP{P:Prop}(h:P:=by rw [jP,jP,htl,hv,hdl];omega):P:=h
theorem qQ{P:Prop}(h:P:=by simpa using hi):P:=h
theorem qR{P:Prop}(h:P:=by rw [e]):P:=h
theorem qS{P:Prop}(h:P:=by cases h):P:=h
theorem qT{P:Prop}(h:P:=by rw [Addr.add_lit,vh,hWc];exact hOv _ u (hvs j u hj)):P:=h
theorem qU{P:Prop}(h:P:=by rw [hown.1];omega):P:=h
theorem qV{P:Prop}(h:P:=by rw [vL];omega):P:=h
theorem qW{P:Prop}(h:P:=by have:=A1.o.below;rw [HU.o.2.2.2] at this;exact this):P:=h
theorem qX{P:Prop}(h:P:=by have:=A2.o.below;rw [HU.o.2.2.2] at this;exact this):P:=h
theorem qY{P:Prop}(h:P:=by rw [HLN.o];exact HNN.o):P:=h
theorem qZ{P:Prop}(h:P:=by have:=HNQ.o.2.2.1;omega):P:=h
theorem xa{P:Prop}(h:P:=by rw [pd xs p (by rw [ac] at hp;exact hp)]):P:=h
theorem xb{P:Prop}(h:P:=by have:=HK.o;omega):P:=h
theorem xc{P:Prop}(h:P:=by have hb:=hbytes;simp only [vh] at hb;omega):P:=h
theorem xd{P:Prop}(h:P:=by rw [HR.o,ml];simp only [hN1,hN2,hN3,hN4,hN5,hX]):P:=h
theorem xe{P:Prop}(h:P:=by have:=hm.o;omega):P:=h
theorem xf{P:Prop}(h:P:=by rw [hw1];simp):P:=h
theorem xg{P:Prop}(h:P:=by have:=hperm.length_eq;omega):P:=h
theorem xh{P:Prop}(h:P:=by rcases e with e | e<;>omega):P:=h
theorem xi{P:Prop}(h:P:=by have:=hp.1;simpa using this):P:=h
theorem xj{P:Prop}(h:P:=by rw [<-hOwn];exact hgrow):P:=h
theorem xk{P:Prop}(h:P:=by rw [hf];exact k):P:=h
theorem xl{P:Prop}(h:P:=by rw [hzb,hik];exact growslice_fits hroom zj):P:=h
theorem xm{P:Prop}(h:P:=by have e':k=S+1:=e;have:=HM.o.2.2.2.2.2.2.2.2.2;omega):P:=h
theorem xn{P:Prop}(h:P:=by rw [Nat.succ_mul]):P:=h
theorem xo{P:Prop}(h:P:=by rw [HLN.o];exact hown):P:=h
theorem xp{P:Prop}(h:P:=by rw [vy,vN];exact h1):P:=h
theorem xq{P:Prop}(h:P:=by simp [World.cell?,hu1']):P:=h
theorem xr{P:Prop}(h:P:=by simp [pU] at h):P:=h
theorem xt{P:Prop}(h:P:=by rw [bO];exact hc):P:=h
theorem xu{P:Prop}(h:P:=by have:=HB.o.2.1;omega):P:=h
theorem xv{P:Prop}(h:P:=by have:=htot.o;simp;omega):P:=h
theorem xw{P:Prop}(h:P:=by have:=HI.o.len hq;omega):P:=h
theorem xx{P:Prop}(h:P:=by simpa using h1):P:=h
theorem xz{P:Prop}(h:P:=by rw [<-HQN.o,<-HL.o];exact decide_eq_true hlv):P:=h
theorem xA{P:Prop}(h:P:=by rw [aR];exact (H2.o.2.2.2.1 x).2 (.inr hx)):P:=h
theorem xB{P:Prop}(h:P:=by rw [vy,vN];exact hl):P:=h
theorem xC{P:Prop}(h:P:=by simp [h0]):P:=h
theorem xD{P:Prop}(h:P:=by rw [bR];omega):P:=h
theorem xE{P:Prop}(h:P:=by simp [hy]):P:=h
theorem xF{P:Prop}(h:P:=by cases e;exact ⟨jL _,hrg.iter_walk⟩):P:=h
theorem xG{P:Prop}(h:P:=by unfold ltX at*;rw [we] at*;simp at*;omega):P:=h
theorem xH{P:Prop}(h:P:=by rw [hS.o];exact hB):P:=h
theorem xI{P:Prop}(h:P:=by show B<=B+1+1;omega):P:=h
theorem xJ{P:Prop}(h:P:=by rw [Addr.add_lit,vh];exact hvs j u hj):P:=h
theorem xK{P:Prop}(h:P:=by rw [alloc_eq_grow,alloc_eq_grow,grow_grow];rfl):P:=h
theorem xL{P:Prop}(h:P:=by have:=congrArg List.length hP;simpa using this):P:=h
theorem xM{P:Prop}(h:P:=by rw [hmin,hv]):P:=h
theorem xN{P:Prop}(h:P:=by rw [bd cF hk zj];rfl):P:=h
theorem xO{P:Prop}(h:P:=by simp [World.cell?,hd2]):P:=h
theorem xP{P:Prop}(h:P:=by have:=h.2.2.1;omega):P:=h
theorem xQ{P:Prop}(h:P:=by unfold aj;have:=HN.o.2.2.2.1;simp;omega):P:=h
theorem xR{P:Prop}(h:P:=by simp [World.cell?,hYb]):P:=h
theorem xS{P:Prop}(h:P:=by rw [hl,ac]):P:=h
theorem xU{P:Prop}(h:P:=by have:=h.2.2.2;omega):P:=h
theorem xV{P:Prop}(h:P:=by simp [ct]):P:=h
theorem xW{P:Prop}(h:P:=by have:=(t4 nd).2 q;rw [hp] at this;cases this):P:=h
theorem xX{P:Prop}(h:P:=by rw [hU.o];exact (zh w _).alloc zq _):P:=h
theorem xY{P:Prop}(h:P:=by rw [hv];simp):P:=h
theorem xZ{P:Prop}(h:P:=by simpa using hx):P:=h
theorem jb{P:Prop}(h:P:=by rw [hw1];exact zh w _):P:=h
theorem jc{P:Prop}(h:P:=by have:=hS.o;omega):P:=h
theorem jd{P:Prop}(h:P:=by simp [hz]):P:=h
theorem je{P:Prop}(h:P:=by have:=A.o.2.1;omega):P:=h
theorem jg{P:Prop}(h:P:=by show B<=B+1;omega):P:=h
theorem jh{P:Prop}(h:P:=by obtain ⟨_,_,_,_,_,_,_,_,k,_⟩:=h;exact k):P:=h
theorem ji{P:Prop}(h:P:=by rw [hp];rfl):P:=h
theorem jj{P:Prop}(h:P:=by rw [hD.o];simp [ByteArray.size,kg]):P:=h
theorem jk{P:Prop}(h:P:=by rw [h.size];omega):P:=h
theorem jl{P:Prop}(h:P:=by rw [h0,hW1];exact heap_alloc_new w.drew _):P:=h
theorem jm{P:Prop}(h:P:=by simp [results,Tryz.results359,go_sem]):P:=h
theorem jo{P:Prop}(h:P:=by simp at hl |-;omega):P:=h
theorem jp{P:Prop}(h:P:=by rw [jP,hal,hdl];omega):P:=h
theorem jq{P:Prop}(h:P:=by rw [hc _ _ zl];simp [go_sem]):P:=h
theorem jr{P:Prop}(h:P:=by unfold TreeCell at h;simp [World.cell?,h]):P:=h
theorem js{P:Prop}(h:P:=by have:=HH.o.2.1;have:=hp.length_eq;omega):P:=h
theorem jt{P:Prop}(h:P:=by congr 1;omega):P:=h
theorem ju{P:Prop}(h:P:=by rw [List.length_eraseIdx,if_pos hk];omega):P:=h
theorem jw{P:Prop}(h:P:=by have:=hk2.size;omega):P:=h
theorem jx{P:Prop}(h:P:=by unfold World.ownsRow;rw [h0];exact hown):P:=h
theorem jy{P:Prop}(h:P:=by show U.cell? _=_;simp [World.cell?,hu1]):P:=h
theorem jz{P:Prop}(h:P:=by have:=H0.o.2.2.2.2.2.2.2 q;cases this):P:=h
theorem jA{P:Prop}(h:P:=by have:=HSw.o;omega):P:=h
theorem jB{P:Prop}(h:P:=by simp [Op.bytesLess]):P:=h
theorem jC{P:Prop}(h:P:=by show U.cell? _=_;simp [World.cell?,hu0]):P:=h
theorem za{α:Sort _}(x:α):∃U,U=x:=⟨x,rfl⟩
theorem ze{α:Sort _}(x:α):∃U,Aside (U=x):=⟨x,rfl⟩
theorem zg{n:Nat}:n≤n:=Nat.le_refl n
theorem zh(w:World)(o:Obj):Below w.heap.size w (w.alloc o):=(Below.refl _ w).alloc (Nat.le_refl _) o
theorem zi{a b c:World}(h:Below a.heap.size a b)(k:Below b.heap.size b c):Below a.heap.size a c:=h.trans (k.mono h.size)
theorem jD{P:Prop}(h:P:=by simp [results,Tryz.results358,go_sem,c0,c1,c2,c3,c4,c5,c6,c7]):P:=h
theorem jE{P:Prop}(h:P:=by simp [ar,cV,ltr,hlt.out]):P:=h
theorem jF{P:Prop}(h:P:=by have:=B7.out.2;omega):P:=h
theorem jG{P:Prop}(h:P:=by simp [results,Tryz.results203,go_sem,c0,c1]):P:=h
theorem jH{P:Prop}(h:P:=by rw [e];rfl):P:=h
theorem jI:type_of%@List.getElem?_eq_some_iff:=@List.getElem?_eq_some_iff
theorem jJ:type_of%@Array.getElem?_eq_some_iff:=@Array.getElem?_eq_some_iff
theorem jK:type_of%@List.getElem?_eq_getElem:=@List.getElem?_eq_getElem
theorem jL:type_of%@Nat.le_refl:=@Nat.le_refl
theorem jM:type_of%@Nat.le_trans:=@Nat.le_trans
theorem jN:type_of%@Below.refl:=@Below.refl
theorem jO:type_of%@List.mem_append:=@List.mem_append
theorem jP:type_of%@List.length_append:=@List.length_append
theorem jQ:type_of%@List.mem_cons:=@List.mem_cons
theorem jR:type_of%@World.block_lt_of_cell?:=@World.block_lt_of_cell?
theorem jS:type_of%@List.mem_singleton:=@List.mem_singleton
theorem jT:type_of%@List.mem_of_getElem?:=@List.mem_of_getElem?
theorem jU:type_of%@List.setIfInBounds_toArray:=@List.setIfInBounds_toArray
theorem jV:type_of%@Below.heap_alloc:=@Below.heap_alloc
theorem jW:type_of%@Nat.lt_of_lt_of_le:=@Nat.lt_of_lt_of_le
theorem jX:type_of%@Nat.zero_le:=@Nat.zero_le
theorem jY:type_of%@List.length_cons:=@List.length_cons
theorem jZ:type_of%@List.set_cons_zero:=@List.set_cons_zero
theorem vd:type_of%@List.set_cons_succ:=@List.set_cons_succ
theorem ve:type_of%@List.length_eq_zero_iff:=@List.length_eq_zero_iff
theorem vf:type_of%@List.mem_cons_of_mem:=@List.mem_cons_of_mem
theorem vg:type_of%@List.mem_append_left:=@List.mem_append_left
theorem vh:type_of%@Nat.zero_add:=@Nat.zero_add
theorem vi:type_of%@World.cell?_of_block:=@World.cell?_of_block
theorem vj:type_of%@List.length_take:=@List.length_take
theorem vm:type_of%@List.take_of_length_le:=@List.take_of_length_le
theorem vn:type_of%@List.append_assoc:=@List.append_assoc
theorem vp:type_of%@List.mem_map:=@List.mem_map
theorem vr:type_of%@List.mem_cons_self:=@List.mem_cons_self
theorem vu:type_of%@List.size_toArray:=@List.size_toArray
theorem vv:type_of%@List.take_append_of_le_length:=@List.take_append_of_le_length
theorem vw:type_of%@List.length_nil:=@List.length_nil
theorem vx:type_of%@List.length_drop:=@List.length_drop
theorem vy:type_of%@List.length_map:=@List.length_map
theorem vz:type_of%@List.map_append:=@List.map_append
theorem vA:type_of%@List.take_append_drop:=@List.take_append_drop
theorem vB:type_of%@List.mem_append_right:=@List.mem_append_right
theorem vD:type_of%@World.ownsRow_nil:=@World.ownsRow_nil
theorem vF:type_of%@List.pairwise_cons:=@List.pairwise_cons
theorem vG:type_of%@Array.getElem?_eq_getElem:=@Array.getElem?_eq_getElem
theorem vH:type_of%@ByteArray.toList_eq:=@ByteArray.toList_eq
theorem vI:type_of%@Nat.add_zero:=@Nat.add_zero
theorem vJ:type_of%@List.map_cons:=@List.map_cons
theorem vK:type_of%@Nat.mul_le_mul_right:=@Nat.mul_le_mul_right
theorem vL:type_of%@World.size_alloc:=@World.size_alloc
theorem vM:type_of%@List.nodup_append:=@List.nodup_append
theorem vN:type_of%@Array.length_toList:=@Array.length_toList
theorem vO:type_of%@List.pairwise_iff_getElem:=@List.pairwise_iff_getElem
theorem vP:type_of%@List.getElem?_map:=@List.getElem?_map
theorem vQ:type_of%@Array.replicate_succ:=@Array.replicate_succ
theorem vR:type_of%@Array.replicate_zero:=@Array.replicate_zero
theorem vT:type_of%@List.append_toArray:=@List.append_toArray
theorem vV:type_of%@List.take_add_one:=@List.take_add_one
theorem vW:type_of%@List.getElem?_drop:=@List.getElem?_drop
theorem vX:type_of%@List.cons_append:=@List.cons_append
theorem vY:type_of%@List.push_toArray:=@List.push_toArray
theorem vZ:type_of%@List.append_nil:=@List.append_nil
theorem ua:type_of%@List.nil_append:=@List.nil_append
theorem ub:type_of%@List.length_singleton:=@List.length_singleton
theorem uc:type_of%@List.mem_of_mem_take:=@List.mem_of_mem_take
theorem ud:type_of%@List.getElem_toArray:=@List.getElem_toArray
theorem ue:type_of%@Nat.lt_or_ge:=@Nat.lt_or_ge
theorem uf:type_of%@List.getElem?_take:=@List.getElem?_take
theorem ug:type_of%@List.filter_append:=@List.filter_append
theorem uh:type_of%@List.mem_of_mem_eraseIdx:=@List.mem_of_mem_eraseIdx
theorem ui:type_of%@World.news_of_block:=@World.news_of_block
theorem uj:type_of%@Nat.add_assoc:=@Nat.add_assoc
theorem uk:type_of%@Bool.and_eq_true:=@Bool.and_eq_true
theorem ul:type_of%@List.take_length:=@List.take_length
theorem um:type_of%@List.perm_append_comm:=@List.perm_append_comm
theorem un:type_of%@List.drop_eq_getElem_cons:=@List.drop_eq_getElem_cons
theorem uo:type_of%@Option.map_some:=@Option.map_some
theorem uq:type_of%@World.cell?_alloc_lt:=@World.cell?_alloc_lt
theorem ur:type_of%@World.cell?_setCells_out:=@World.cell?_setCells_out
theorem ut:type_of%@List.map_congr_left:=@List.map_congr_left
theorem uu:type_of%@List.not_mem_nil:=@List.not_mem_nil
theorem uv:type_of%@List.drop_of_length_le:=@List.drop_of_length_le
theorem uw:type_of%@World.frozen?_setCells:=@World.frozen?_setCells
theorem ux:type_of%@List.getElem_cons_succ:=@List.getElem_cons_succ
theorem uy:type_of%@List.getElem_cons_zero:=@List.getElem_cons_zero
theorem uz:type_of%@List.length_filter_le:=@List.length_filter_le
theorem uA:type_of%@Nat.add_mul:=@Nat.add_mul
theorem uB:type_of%@List.map_nil:=@List.map_nil
theorem uC:type_of%@List.getElem?_append_left:=@List.getElem?_append_left
theorem uD:type_of%@List.getElem_of_mem:=@List.getElem_of_mem
theorem uF:type_of%@List.length_pos_iff:=@List.length_pos_iff
theorem uG:type_of%@Option.isSome_iff_exists:=@Option.isSome_iff_exists
theorem uH:type_of%@List.range_succ:=@List.range_succ
theorem uI:type_of%@List.mem_filterMap:=@List.mem_filterMap
theorem uJ:type_of%@List.pairwise_singleton:=@List.pairwise_singleton
theorem uK:type_of%@Array.getElem?_eq_none:=@Array.getElem?_eq_none
theorem uL:type_of%@Option.map_eq_some_iff:=@Option.map_eq_some_iff
theorem uM:type_of%@List.mem_of_mem_drop:=@List.mem_of_mem_drop
theorem uN:type_of%@List.mem_filter:=@List.mem_filter
theorem uO:type_of%@List.length_set:=@List.length_set
theorem uP:type_of%@Nat.pow_succ:=@Nat.pow_succ
theorem uQ:type_of%@Nat.le_of_lt:=@Nat.le_of_lt
theorem uR:type_of%@List.take_take:=@List.take_take
theorem uS:type_of%@List.nodup_nil:=@List.nodup_nil
theorem uT:type_of%@Option.isSome_none:=@Option.isSome_none
theorem uU:type_of%@Option.isSome_some:=@Option.isSome_some
theorem uV:type_of%@Nat.mod_lt:=@Nat.mod_lt
theorem uW:type_of%@List.length_filterMap_le:=@List.length_filterMap_le
theorem uX:type_of%@Option.getD_some:=@Option.getD_some
theorem uY:type_of%@Nat.mul_comm:=@Nat.mul_comm
theorem uZ:type_of%@List.getElem?_set_self:=@List.getElem?_set_self
theorem Za:type_of%@World.cell?_alloc_past:=@World.cell?_alloc_past
theorem Zb:type_of%@Array.getElem?_toList:=@Array.getElem?_toList
