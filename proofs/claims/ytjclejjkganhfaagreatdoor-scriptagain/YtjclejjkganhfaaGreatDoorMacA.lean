import Derived.RangeFuncRecord
import Derived.Maps.Own
import Derived.Test.YtjclejjkganhfaaGreatDoorMacV
import Derived.IntWalk
import Derived.Deep.LoopGhost
import Derived.Deep.AppendLies
namespace Go
theorem Aside.o{p:Prop}(h:Aside p):p:=h
theorem RowKit.Hid.o{p:Prop}(h:RowKit.Hid p):p:=h
end Go
namespace Go.Proofs
open Go.RowKit
theorem kb3{P:Prop}(h:P:=by
 have:=hp.2.2
 simp only [Array.toList_extract] at this
 rw [List.extract_eq_take_drop,List.extract_eq_take_drop,List.drop_zero,List.drop_zero,Nat.sub_zero,Zl (by simp [hsz]),Zl zq] at this
 exact this):P:=h
theorem kb4{P:Prop}(h:P:=by exact (((((((B1.setCell zq _).setCell zq _).setCell zq _).setCell zq _).setCell zq _).setCell zq _).setCell zq _).setCell zq _):P:=h
theorem kc0{P:Prop}(h:P:=by
 obtain ⟨t,b,n,k,nd,o,s,v⟩:=x
 have h':opE t b n k nd o s.data.toList v.data.toList=0:=h
 obtain ⟨h1,h2,h3,h4,h5,h6,hk,h7,h8,h9,kU,-,hn,hv⟩:=mP h'
 have e1:=Lib.itoa_length_le t zj zj
 have e2:=Lib.itoa_length_le b zj zj
 have e3:=Lib.itoa_length_le n zj zj
 have e4:=Lib.itoa_length_le nd zj zj
 have e5:=Lib.itoa_length_le o zj zj
 have e6:=tM v.data.toList
 unfold mO ou
 simp only [pA,uS,Zd,Zt]
 omega):P:=h
theorem kc6{P:Prop}(h:P:=by
 have hl:=(uK.1 hx).1
 refine ⟨zj,zj,rfl,?_,rfl⟩
 rw [ZF,hx,Yc]
 have e1:(ys.take k).filter (fun x=> !p x)=ys.take k:=List.filter_eq_self.2 (fun a ha=>by
   obtain ⟨q,hq,e⟩:=YH ha
   rw [Zp] at hq
   rw [List.getElem_take] at e
   rw [hk q a zj (by rw [<-e];exact uL zj)]
   rfl)
 rw [e1]
 simp [hp]):P:=h
theorem kc7{P:Prop}(h:P:=by
 rw [Zv] at this
 exact this):P:=h
theorem kd0{P:Prop}(h:P:=by
 have X:=F0.cut V.swo HR.o zj zj zj zj jV.o jW.o RT
 rw [show i+(e - m)=mid by omega] at X
 exact X):P:=h
theorem kd4{P:Prop}(h:P:=by
 have hlt:=(uK.1 hj).1
 rw [<-htake,Yj,if_pos zj] at hj
 simp [World.cell?,hgb,<-hj]):P:=h
theorem kd5{P:Prop}(h:P:=by
 simp only [Lib.join_length,Lib.lens,ZR,Yu,Zd,Zt,List.sum_cons,List.sum_nil]
 omega):P:=h
theorem kd6{P:Prop}(h:P:=by exact mV (b:=S+1) gc.o.2 yV 0 (qOl t' b' m' kd' nd' o' s' v')):P:=h
theorem kd7{P:Prop}(h:P:=by
 have hWs:W.heap.size=w.heap.size+1:=by rw [h0,bM];simp
 exact ⟨_,rfl,MJ hgW hY hRs aj hGn hGm zj dS hv,⟨k1.os.trans h2,k1.tape.trans h3,k1.output.trans h4,by have:=k1.size;omega,fun k hk hs=>by
    refine (k1.block k zj zj).trans ?_
    rw [h0,bM]
    exact uT w.drew _ k hk⟩,.inr rfl⟩):P:=h
theorem kd8{P:Prop}(h:P:=by
 rintro e w' ⟨s,rfl,H⟩
 obtain ⟨t,rfl,hP,hbt⟩:=H.o
 exact ⟨_,rfl,t,rfl,hP,zi ah hbt⟩):P:=h
theorem kd9{P:Prop}(h:P:=by
 simp only [Prod.mk.injEq,List.cons.injEq,ZW,and_true] at e
 grind [zbK]):P:=h
theorem ke5{P:Prop}(h:P:=by
 obtain ⟨g,cap,e,hg,hc⟩:=Po h1 hn
 exact ⟨g,cap,e,hg,fun i x hx=>by rw [hc i (uK.1 hx).1,ZQ,hx];rfl⟩):P:=h
theorem ke6{P:Prop}(h:P:=by
 rw [<-HB.o]
 exact hBW.trans (belowK_b (w:=w) zj W D _ _ yK hK rfl rfl)):P:=h
theorem kf5{P:Prop}(h:P:=by
 rw [hU,hS,uT _ _ _ zq]
 exact heap_alloc_new w _):P:=h
theorem kf8{P:Prop}(h:P:=by
 exact ⟨_,rfl,Ip ie au zj hv,⟨k1.os.trans h2,k1.tape.trans h3,k1.output.trans h4,by rw [<-h0];exact k1.size,fun k hk hs=>by
    rw [<-h0]
    exact k1.block k (by rw [h0];exact hk) (fun e=>hs uH)⟩,.inl rfl⟩):P:=h
theorem kg2{P:Prop}(h:P:=by
 have:=congrArg (List.drop 1) h.rest
 simpa [List.drop_drop,Nat.add_comm] using this):P:=h
theorem kg3{P:Prop}(h:P:=by
 obtain rfl:j=k:=zj
 rw [hl.o] at e
 cases e
 exact HQ.o):P:=h
theorem kg4{P:Prop}(h:P:=by exact (mV (b:=S) H1.o.2.1 yw 0 qZl).drew):P:=h
theorem kg7{P:Prop}(h:P:=by
 intro e w' q
 exact q.mono (fun K' st' N' a q=>by
   obtain ⟨cd,ea,q⟩:=q
   exact ⟨n,cd,rfl,ea,q⟩)):P:=h
theorem kg9{P:Prop}(h:P:=by rw [hb.cell (p:=(qA b o)) (uP w (qA b o) h)];exact h):P:=h
theorem kh1{P:Prop}(h:P:=by
 have hgk:g≠k:=fun e=>hs e.symm
 simp only [sortWorldK,putRowK,putRow,mapBlock,Sort.ahead,grow]
 grind):P:=h
theorem kh2{P:Prop}(h:P:=by exact ((((((((B1.setCell zq _).setCell zq _).setCell zq _).setCell zq _).setCell zq _).setCell zq _).setCell zq _).setCell zq _).drew):P:=h
theorem kh3{P:Prop}(h:P:=by
 rw [ZM]
 refine ⟨hR.num.I7,hF.one.imp (fun {a b} h e=>h (by rw [e];exact ⟨rfl,rfl⟩)),fun a ha b hb e=> ?_⟩
 subst e
 exact hF.off a hb a ha ⟨rfl,rfl⟩):P:=h
theorem kh5{P:Prop}(h:P:=by rcases hv with rfl | rfl | rfl | rfl | rfl | rfl | rfl | rfl<;>rfl):P:=h
theorem kh6{P:Prop}(h:P:=by exact ⟨rfl,rfl⟩):P:=h
theorem kh7{P:Prop}(h:P:=by
 obtain ⟨⟨D,⟨es,aM,hb,F⟩,r⟩,g⟩:=h
 exact ⟨⟨D,⟨es,aM,e.trans hb,F⟩,r⟩,g⟩):P:=h
theorem kh9{P:Prop}(h:P:=by
 rintro e w' ⟨rfl,hb⟩
 exact ⟨rfl,Y9.y hT hb⟩):P:=h
theorem ki0{P:Prop}(h:P:=by exact mV (b:=S) B2.o yw 0 (qOl t b m kd nd' o s v)):P:=h
theorem ki1{P:Prop}(h:P:=by exact h.two _ _ zj zj zj):P:=h
theorem ki3{P:Prop}(h:P:=by
 rw [ZF (l:=ys),hx,Yc,<-h.aaN,ZF,List.getElem?_set_self zj,List.take_set_of_le zg]
 simp [hp]):P:=h
theorem ki4{P:Prop}(h:P:=by
 rw [hr] at ae
 simp only [Result.ok.injEq] at ae
 right
 rw [<-ae.1,<-ae.2]
 exact ⟨rfl,rfl,rfl,rfl,zq,fun k hk _=>uT w.drew _ k hk⟩):P:=h
theorem ki5{P:Prop}(h:P:=by
 have e1:IntKind.i64.min= -2^63:=zo
 have e2:IntKind.i64.max=2^63 - 1:=zo
 simp only [Lit.wf,e1,e2,Yk,decide_eq_true_eq]
 omega):P:=h
theorem ki6{P:Prop}(h:P:=by exact ⟨⟨_,rfl,_,rfl,SB _ _ _ _⟩,((H3.o.1.m8.alloc H3.o.1.m8.size _).alloc (by simp;have:=H3.o.1.m8.size;omega) _).drew⟩):P:=h
theorem ki8{P:Prop}(h:P:=by
 simp [Value.cells] at hcs
 obtain ⟨rfl,rfl,rfl⟩:=hcs
 exact ⟨[],rfl,uW _,fun i x hx=>ya,fun x hx=>ya⟩):P:=h
theorem ki9{P:Prop}(h:P:=by
 simp only [mN,List.flatMap_cons,List.flatMap_nil,Ye] at hj
 simp only [World.cell?,Ze]
 rw [hn]
 simpa using hj):P:=h
theorem kj3{P:Prop}(h:P:=by
 obtain ⟨hl,h⟩:=oy h
 grind [Aw,EF,Qy,oC]):P:=h
theorem kj4{P:Prop}(h:P:=by exact .inr ⟨e.1,⟨e.2.os,e.2.tape,e.2.output,e.2.size,e.2.block⟩⟩):P:=h
theorem kj5{P:Prop}(h:P:=by
 have hkp:=lZ b [.int .u8 hd] j wr
 exact A.o.2.2.trans (hkp.m8 A.o.2.2.size (fun q e=>by have:=hb.o;omega))):P:=h
theorem kj7{P:Prop}(h:P:=by
 rw [ZQ,List.getElem?_range bl] at hi
 simpa using hi):P:=h
theorem kj9{P:Prop}(h:P:=by exact h.one _ _ zj zj zj):P:=h
theorem kk0{P:Prop}(h:P:=by exact .inr ⟨b,o,(Value.slice.inj q1).1,q2⟩):P:=h
theorem kk2{P:Prop}(h:P:=by
 have:=uP w4 ⟨14,0,none⟩ X4.max
 dsimp only at this
 rcases hk with q | q | q | q<;>omega):P:=h
theorem kk3{P:Prop}(h:P:=by have:=h k hk;simp_all):P:=h
theorem kk7{P:Prop}(h:P:=by
 have hl:(left (rp k) && !Lit.sameKey (rp k) (rp x))=false:=hl
 rw [Gn (hg k d hk) hx] at hl
 grind):P:=h
theorem kk8{P:Prop}(h:P:=by exact .inr ⟨g,o,h1,fun j u hj=>mZ hb (h2 j u hj)⟩):P:=h
theorem kk9{P:Prop}(h:P:=by
 have:=of_decide_eq_true hq
 obtain ⟨rfl,rfl,rfl,rfl,rfl,rfl,rfl,rfl⟩:=this
 rfl):P:=h
theorem kl1{P:Prop}(h:P:=by
 dsimp only
 rw [if_pos rfl]
 exact .inl ⟨rfl,rfl,rfl,dC,.inl ⟨rfl,by rw [Og,hB]⟩⟩):P:=h
theorem kl2{P:Prop}(h:P:=by
 rw [HF.o]
 exact ⟨rfl,H.o.2.1.same (HR.o.2.block g H.o.2.2.2.2),HR.o.2.mono H.o.2.2.2.1⟩):P:=h
theorem kl3{P:Prop}(h:P:=by
 subst hv
 exact run_convert_bytes_nil w _ _ Tryz.underlying141 Tryz.underlying5 0 0 _ Tryz.underlying9):P:=h
theorem kl4{P:Prop}(h:P:=by simp [sortWorldK,putRowK,putRow,mapBlock,Sort.ahead,grow]):P:=h
theorem kl5{P:Prop}(h:P:=by rw [bM,Ym (w:=w.drew) be _ w.heap.size j rfl,Yf zj];rfl):P:=h
theorem kl6{P:Prop}(h:P:=by
 rw [if_pos rfl]
 congr 1
 grind [oV]):P:=h
theorem kl7{P:Prop}(h:P:=by exact .inr ⟨g,cap,cur,rfl,h1,(hs g rfl).trans hg,h2⟩):P:=h
theorem kl8{P:Prop}(h:P:=by exact Jy ((show SWK mW 3 w g 0 d' _ from ⟨n,os,rfl⟩).holds hblk hH (by rw [hsz];simp))):P:=h
theorem kl9{P:Prop}(h:P:=by
 have:=congrArg (fun l=>l[0]?) h.rest
 simp only [ZT,ZG] at this
 rw [this,hx]):P:=h
theorem km0{P:Prop}(h:P:=by
 rw [Zv] at this
 rw [hU,hS]
 exact this):P:=h
theorem km2{P:Prop}(h:P:=by rw [zak zj zj zj];exact zcl D hD s w zj zj zj):P:=h
theorem km4{P:Prop}(h:P:=by
 rw [<-HB.o]
 exact ownsRow_putObj hrow _ hK rfl):P:=h
theorem km5{P:Prop}(h:P:=by
 intro j hj
 rw [Yy]
 exact h.free j (by rw [YN] at hj;exact hj)):P:=h
theorem km6{P:Prop}(h:P:=by rw [lP _ _ q,lP _ _ q];exact h.x8 r hr):P:=h
theorem km7{P:Prop}(h:P:=by
 unfold nv
 rw [YF,uL zj]
 rfl):P:=h
theorem km9{P:Prop}(h:P:=by
 rw [fH]
 simp only [Array.size_append,Zn,aV,size_zeroCells,hZs]
 omega):P:=h
theorem kn0{P:Prop}(h:P:=by exact .inl ⟨g,cp,by unfold kvs;rw [dt.o,lh.o];exact e1,by rw [dt.o];exact e2⟩):P:=h
theorem kn1{P:Prop}(h:P:=by simp [World.cell?,h]):P:=h
theorem kn2{P:Prop}(h:P:=by
 obtain ⟨os,rfl⟩:=HU.o
 exact ⟨1,_,by rw [hV,alloc_eq_grow,grow_grow];rfl⟩):P:=h
theorem kn3{P:Prop}(h:P:=by exact fun z=>atKey_put_same hD (show WideAt.IsKeyLit (.int .i64 x) from trivial) _ _):P:=h
theorem kn4{P:Prop}(h:P:=by refine ⟨?_,?_,?_,?_,?_,?_,?_,?_,fun c=> ?_⟩<;>simp [World.cell?,World.frozen?,h]):P:=h
theorem kn6{P:Prop}(h:P:=by
 intro j hj
 rw [hlen] at hj
 rw [Yy]
 exact h.free j zj):P:=h
theorem kn7{P:Prop}(h:P:=by
 rintro ⟨x,e,k1,k2⟩
 rw [hf] at e
 cases e
 exact ⟨k1,k2⟩):P:=h
theorem kn9{P:Prop}(h:P:=by
 rintro ⟨x,hx,k1,k2⟩
 obtain ⟨a,b⟩:=Dg hx
 exact ⟨x,a,k1,k2,b⟩):P:=h
theorem ko0{P:Prop}(h:P:=by exact (mV (b:=S) HX.o.2.1 yw 0 qZl).drew):P:=h
theorem ko1{P:Prop}(h:P:=by simpa using this):P:=h
theorem ko2{P:Prop}(h:P:=by
 obtain ⟨D,⟨es,aM,hb,F⟩,r⟩:=h
 exact ⟨D,⟨es,aM,e.trans hb,F⟩,r⟩):P:=h
theorem ko3{P:Prop}(h:P:=by
 rw [hr] at ae
 simp only [Result.ok.injEq] at ae
 right
 rw [<-ae.1]
 rfl):P:=h
theorem ko4{P:Prop}(h:P:=by subst dD;exact hy.wpOp hi (hTw listed w hS hz) ⟨hS.imp id wS,H⟩):P:=h
theorem ko5{P:Prop}(h:P:=by exact zbq _ zj):P:=h
theorem ko6{P:Prop}(h:P:=by rw [hp.2.1 i (.inl zj),hp.2.1 j (.inl h1)];exact h.done i j ay h1 fe):P:=h
theorem ko8{P:Prop}(h:P:=by refine ⟨?_,?_,?_,?_,fun c=> ?_⟩<;>simp [World.cell?,World.frozen?,this]):P:=h
theorem ko9{P:Prop}(h:P:=by exact Bool.noConfusion (hd.symm.trans hx)):P:=h
theorem kp0{P:Prop}(h:P:=by exact ⟨y,Za _ hy,q⟩):P:=h
theorem kp1{P:Prop}(h:P:=by rw [Yg hlt,(uK.1 hx.o).2]):P:=h
theorem kp4{P:Prop}(h:P:=by exact ⟨some (qB g),cap,h,.inr ⟨g,0,rfl,fun j u hj=>zM⟩⟩):P:=h
theorem kp5{P:Prop}(h:P:=by
 have:=h.X2 hy (mB x - mB y - 1).toNat hx e1.symm zj
 grind):P:=h
theorem zj{P:Prop}(h:P:=by omega):P:=h
theorem zk{P:Prop}(h:P:=by kernel_rfl):P:=h
theorem zl{P:Prop}(h:P:=by simp;omega):P:=h
theorem zm{P:Prop}(h:P:=by intro w' ab;clear ab;go_simp;try with_reducible rfl):P:=h
theorem zo{P:Prop}(h:P:=by decide):P:=h
theorem zq{P:Prop}(h:P:=by simp):P:=h
theorem zr{P:Prop}(h:P:=by intro w' ab;have q9:=m6.cells ab.2;dsimp only at q9;obtain ⟨q0,q1,q2,q3,q4,q5,q6,q7,-⟩:=q9;clear ab;go_simp;try with_reducible rfl):P:=h
theorem zt{P:Prop}(h:P:=by rfl):P:=h
theorem zu{P:Prop}(h:P:=by intro w' ab;obtain ⟨k1,k2,k3,k4⟩:=ab;go_simp;try with_reducible rfl):P:=h
theorem zv{P:Prop}(h:P:=by obtain ⟨B0,h0⟩:=hS.r2;obtain ⟨x,y,e⟩:=mC h0;exact ⟨_,_,_,e⟩):P:=h
theorem zw{P:Prop}(h:P:=by rw [IntKind.wrap_i64];omega):P:=h
theorem zA{P:Prop}(h:P:=by obtain ⟨B0,h0⟩:=hS.r0;obtain ⟨x,y,e⟩:=mC h0;exact ⟨_,_,_,e⟩):P:=h
theorem zB{P:Prop}(h:P:=by simp only [maxLen];omega):P:=h
theorem zD{P:Prop}(h:P:=by intro w' ab;have q:=ab _ _ (Nat.lt_succ_self S) s1;clear ab;go_simp;try with_reducible rfl):P:=h
theorem zF{P:Prop}(h:P:=by intro w' ab;obtain ⟨k0,k1,k2,k3,k4,k5⟩:=ab;go_simp;try with_reducible rfl):P:=h
theorem zG{P:Prop}(h:P:=by intro w' ab;obtain ⟨j0,j1,j2,j3,j4,j5,j6,j7,-⟩:=m6.cells ab.1;dsimp only at j0 j1 j2 j3 j4 j5 j6 j7;clear ab;go_simp;try with_reducible rfl):P:=h
theorem zH{P:Prop}(h:P:=by intro w' ab;obtain ⟨k0,k1,k2⟩:=ab;go_simp;try with_reducible rfl):P:=h
theorem zI{P:Prop}(h:P:=by intro w' ab;have q1:=ab.1.c0;clear ab;go_simp;try with_reducible rfl):P:=h
theorem zJ{P:Prop}(h:P:=by go_num):P:=h
theorem zK{P:Prop}(h:P:=by intro w' ab;obtain ⟨j0,j1,j2,j3,j4,j5,j6,j7,-⟩:=m6.cells ab;dsimp only at j0 j1 j2 j3 j4 j5 j6 j7;go_simp;try with_reducible rfl):P:=h
theorem zL{P:Prop}(h:P:=by obtain ⟨B0,h0⟩:=hS.r1;obtain ⟨x,y,e⟩:=mC h0;exact ⟨_,_,_,e⟩):P:=h
theorem zM{P:Prop}(h:P:=by simp_all):P:=h
theorem zN{P:Prop}(h:P:=by grind):P:=h
theorem zO{P:Prop}(h:P:=by intro w' ab;have q:=ab ⟨g1,0,none⟩ _ (Nat.lt_succ_of_lt l1) dQ;clear ab;go_simp;try with_reducible rfl):P:=h
theorem zP{P:Prop}(h:P:=by rw [hU];exact (zh w _).alloc zq _):P:=h
theorem zQ{P:Prop}(h:P:=by intro w' ab;have q:=ab _ _ (Nat.lt_succ_self S) s2;clear ab;go_simp;try with_reducible rfl):P:=h
theorem zR{P:Prop}(h:P:=by intro w' ab;have q:=ab.cell (b:=Sd) (o:=0) kz s0;clear ab;go_simp;try with_reducible rfl):P:=h
theorem zT{P:Prop}(h:P:=by simp [World.cell?,Z4]):P:=h
theorem zV{P:Prop}(h:P:=by unfold n7 at h;simp [World.cell?,h]):P:=h
theorem zW{P:Prop}(h:P:=by intro w' ab;have q:=ab ⟨g2,0,none⟩ _ (Nat.lt_succ_of_lt l2) fm;clear ab;go_simp;try with_reducible rfl):P:=h
theorem zX{P:Prop}(h:P:=by rw [hU];exact zh w _):P:=h
theorem zY{P:Prop}(h:P:=by simp [go_sem]):P:=h
theorem zZ{P:Prop}(h:P:=by obtain ⟨Bx,f1,f2,f3⟩:=hs;exact ⟨Bx,f1,nW f2 hg hr,f3⟩):P:=h
theorem ya{P:Prop}(h:P:=by simp at hx):P:=h
theorem yb{P:Prop}(h:P:=by rw [hU,hS];exact (uT _ _ _ zq).trans (I5.GA w ao cap R)):P:=h
theorem yc{P:Prop}(h:P:=by have:=HA.o;rw [hb,Bool.true_and] at this;exact this):P:=h
theorem ye{P:Prop}(h:P:=by intro w' ab;have j4:=(m6.cells ab.1).2.2.2.2.1;dsimp only at j4;clear ab;go_simp;try with_reducible rfl):P:=h
theorem yg{P:Prop}(h:P:=by intro w' ab;have q:=ab ⟨g1,1,none⟩ _ (Nat.lt_succ_of_lt l1) gR;clear ab;go_simp;try with_reducible rfl):P:=h
theorem yh{P:Prop}(h:P:=by first | rfl | (congr 1;omega)):P:=h
theorem yi{P:Prop}(h:P:=by simp [results,Tryz.results344,go_sem,c0,c1,c2,c3,c4,c5,c6,c7]):P:=h
theorem yj{P:Prop}(h:P:=by dsimp only;omega):P:=h
theorem yk{P:Prop}(h:P:=by simp only [Nat.min_def];split<;>omega):P:=h
theorem yl{P:Prop}(h:P:=by unfold ni;omega):P:=h
theorem ym{P:Prop}(h:P:=by rw [hS.o];exact HV.o.2.2.1 _ _ _ _ _ _ _ _):P:=h
theorem yn{P:Prop}(h:P:=by simp [Act.eval,Act.put]):P:=h
theorem yo{P:Prop}(h:P:=by intro w' ab;have q:=ab.cell (b:=p) (o:=0) bC.2.1 bZ;clear ab;go_simp;try with_reducible rfl):P:=h
theorem yq{P:Prop}(h:P:=by rw [hn];simp):P:=h
theorem yr{P:Prop}(h:P:=by intro w' ab;have q:=ab.cell (b:=g0) (o:=0) kq0 dR;clear ab;go_simp;try with_reducible rfl):P:=h
theorem yt{P:Prop}(h:P:=by intro w' ab;have q:=ab.cell (b:=s) (o:=0) bC.1 dw;clear ab;go_simp;try with_reducible rfl):P:=h
theorem yu{P:Prop}(h:P:=by unfold maxLen;omega):P:=h
theorem yv{P:Prop}(h:P:=by intro w' ab;have q2:=ab.2;rw [hy.o] at q2;obtain ⟨q0,q1,q2,q3,q4,q5,q6,q7,-⟩:=m6.cells q2;dsimp only at q0 q1 q2 q3 q4 q5 q6 q7;clear ab;go_simp;try with_reducible rfl):P:=h
theorem yw{P:Prop}(h:P:=by have:=H0.o.2.2.2.1;omega):P:=h
theorem yA{P:Prop}(h:P:=by intro w' ab;have lk:=(t2.same ab.2.2).abN bE;rw [hp] at lk;unfold AN at lk;simp only [YD] at lk;clear ab;go_simp;try with_reducible rfl):P:=h
theorem yB{P:Prop}(h:P:=by have:=hs.o;omega):P:=h
theorem yC{P:Prop}(h:P:=by rw [hU.o];exact zh w _):P:=h
theorem yD{P:Prop}(h:P:=by simpa using hj):P:=h
theorem yE{P:Prop}(h:P:=by have:=Ad R hi;omega):P:=h
theorem yF{P:Prop}(h:P:=by rw [hU,hS];exact m6.GA w lQ):P:=h
theorem yG{P:Prop}(h:P:=by simpa using e):P:=h
theorem yH{P:Prop}(h:P:=by simp [results,Tryz.results288,go_sem,c0,c1,c2,c3,c4,c5,c6,c7]):P:=h
theorem yI{P:Prop}(h:P:=by rw [e];exact hi):P:=h
theorem yJ{P:Prop}(h:P:=by have:=(A.o.GA i hi).2 g hg;have:=A.o.hS.1;rw [e] at*;omega):P:=h
theorem yK{P:Prop}(h:P:=by have:=HB.o;omega):P:=h
theorem yL{P:Prop}(h:P:=by have:=(H3.o.1.GA i hi).1.alloc (qOc t (i:Int) n kd nd o s v);unfold kvs at this;rw [dt.o,lh.o] at this;exact this):P:=h
theorem yM{P:Prop}(h:P:=by rw [Zv];omega):P:=h
theorem yN{P:Prop}(h:P:=by cases e):P:=h
theorem yO{P:Prop}(h:P:=by show U.cell? _=_;simp [World.cell?,b9]):P:=h
theorem yP{P:Prop}(h:P:=by show U.cell? _=_;simp [World.cell?,cw]):P:=h
theorem yQ{P:Prop}(h:P:=by assumption):P:=h
theorem yR{P:Prop}(h:P:=by have:=((A.o.GA i hi).1.lt g hg).2;have:=HP.o;omega):P:=h
theorem yS{P:Prop}(h:P:=by have e':=e;have:=HM.o.1.l9;have:=H0.o.2.2.2;omega):P:=h
theorem yT{P:Prop}(h:P:=by rw [Ze];exact h.frozenAt j):P:=h
theorem yU{P:Prop}(h:P:=by simp [World.cell?,dh]):P:=h
theorem yV{P:Prop}(h:P:=by have:=H0.o.2.2.2;omega):P:=h
theorem yW{P:Prop}(h:P:=by have:=AX.m8;rw [HU.o.2.2.2] at this;exact this):P:=h
theorem yX{P:Prop}(h:P:=by intro w' ab;have j5:=(m6.cells ab.1).2.2.2.2.2.1;dsimp only at j5;clear ab;go_simp;try with_reducible rfl):P:=h
theorem yY{P:Prop}(h:P:=by simpa using HR.o):P:=h
theorem yZ{P:Prop}(h:P:=by simp<;>omega):P:=h
theorem qa{P:Prop}(h:P:=by rw [hw1];exact (uO w.heap.size w).alloc zg _):P:=h
theorem qb{P:Prop}(h:P:=by decide+kernel):P:=h
theorem qd{P:Prop}(h:P:=by cases h):P:=h
theorem qe{P:Prop}(h:P:=by rw [cR];exact (((zh w3 _).alloc zq _).alloc zl _).alloc zl _):P:=h
theorem qg{P:Prop}(h:P:=by have:=A.o.hS.2.1;rw [<-e,hcq] at this;omega):P:=h
theorem qh{P:Prop}(h:P:=by rw [hU,hS];exact (uT _ _ _ zq).trans (m6.GA w (t,b,m,kd,nd,o,s,v))):P:=h
theorem qi{P:Prop}(h:P:=by have:=T4.o.m8.size;omega):P:=h
theorem qj{P:Prop}(h:P:=by have:=HPL.o;omega):P:=h
theorem ql{P:Prop}(h:P:=by have:=T0.o.m8.size;omega):P:=h
theorem qm{P:Prop}(h:P:=by have:=T2.o.m8.size;omega):P:=h
theorem qo{P:Prop}(h:P:=by simp at h):P:=h
theorem qp{P:Prop}(h:P:=by have:=T3.o.m8.size;omega):P:=h
theorem qq{P:Prop}(h:P:=by have:=T1.o.m8.size;omega):P:=h
theorem qr{P:Prop}(h:P:=by rw [mv hk];simp_all):P:=h
theorem qt{P:Prop}(h:P:=by rw [YN];omega):P:=h
theorem qu{P:Prop}(h:P:=by have:=H5.o.2.2.2.1;omega):P:=h
theorem qv{P:Prop}(h:P:=by have:=hp.1;simpa using this):P:=h
theorem qw{P:Prop}(h:P:=by have:=ll.length_eq;have:=YL zbm A;unfold pu at*;omega):P:=h
theorem qx{P:Prop}(h:P:=by simpa using hl):P:=h
theorem qy{P:Prop}(h:P:=by rw [bY] at e;have:=(iz P e.symm).1;omega):P:=h
theorem qz{P:Prop}(h:P:=by obtain ⟨_,_,⟨B0,h0⟩⟩:=hS;obtain ⟨x,y,e⟩:=mC h0;exact ⟨_,_,_,e⟩):P:=h
theorem qK{P:Prop}(h:P:=by have:=h.X7;omega):P:=h
theorem qM{P:Prop}(h:P:=by obtain ⟨_,⟨B0,h0⟩,_⟩:=hS;obtain ⟨x,y,e⟩:=mC h0;exact ⟨_,_,_,e⟩):P:=h
theorem qQ{P:Prop}(h:P:=by rw [bY] at e;exact (iz S e.symm).2 rfl):P:=h
theorem qV{P:Prop}(h:P:=by unfold x9 at h;simp [World.cell?,h]):P:=h
theorem qZ{P:Prop}(h:P:=by rw [hee,show mid+m - i - 1=mid+m - 1 - i by omega];exact ED.o.2 zj):P:=h
theorem xa{P:Prop}(h:P:=by rw [ZL,dS]):P:=h
theorem xc{P:Prop}(h:P:=by rw [size_flatK];omega):P:=h
theorem xd{P:Prop}(h:P:=by have:=h.free j hj;simp only [World.frozen?] at this |-;rw [e];exact this):P:=h
theorem xe{P:Prop}(h:P:=by rw [hw1,hB];exact heap_alloc_new w _):P:=h
theorem xf{P:Prop}(h:P:=by have:=(h a).1 zq;simp at this):P:=h
theorem xg{P:Prop}(h:P:=by have:=(h b).2 zq;simp at this):P:=h
theorem xh{P:Prop}(h:P:=by rw [decide_eq_false zj];rfl):P:=h
theorem xi{P:Prop}(h:P:=by have q':=q;have:=H0.o.2.2.2;omega):P:=h
theorem xj{P:Prop}(h:P:=by simp [Value.oneCell']):P:=h
theorem xk{P:Prop}(h:P:=by have:=H.o.2.2.1;omega):P:=h
theorem xl{P:Prop}(h:P:=by intro w' ab;have r7:=ab.2.1.c7;clear ab;go_simp;try with_reducible rfl):P:=h
theorem xm{P:Prop}(h:P:=by have:=B7.o.2;omega):P:=h
theorem xn{P:Prop}(h:P:=by simp [h0]):P:=h
theorem xo{P:Prop}(h:P:=by simpa using h):P:=h
theorem xp{P:Prop}(h:P:=by have:=F6.size;simp_all):P:=h
theorem xq{P:Prop}(h:P:=by simp [World.cell?,hVn]):P:=h
theorem xr{P:Prop}(h:P:=by intro w' ab;have q1:=ab.1.c1;clear ab;go_simp;try with_reducible rfl):P:=h
theorem xt{P:Prop}(h:P:=by simp [World.cell?,hS1]):P:=h
theorem xu{P:Prop}(h:P:=by intro w' ab;have r6:=ab.2.c6;clear ab;go_simp;try with_reducible rfl):P:=h
theorem xv{P:Prop}(h:P:=by rw [e2] at hg;rw [e1];exact hg):P:=h
theorem xw{P:Prop}(h:P:=by rw [hS.o];exact uM _):P:=h
theorem xx{P:Prop}(h:P:=by rw [List.take_take];congr 1;omega):P:=h
theorem xz{P:Prop}(h:P:=by rw [bG] at hj;omega):P:=h
theorem xA{P:Prop}(h:P:=by have:=A.o.ne;have:=HP.o;omega):P:=h
theorem xB{P:Prop}(h:P:=by rw [TG.o p hp zj,TG.o q zj zj];exact ki):P:=h
theorem xC{P:Prop}(h:P:=by cases hg):P:=h
theorem xD{P:Prop}(h:P:=by rw [hV];exact heap_alloc_new U _):P:=h
theorem xE{P:Prop}(h:P:=by simp [World.cell?,cw]):P:=h
theorem xF{P:Prop}(h:P:=by rw [<-e];exact hg):P:=h
theorem xG{P:Prop}(h:P:=by rw [bG,hmin];omega):P:=h
theorem xH{P:Prop}(h:P:=by have:=HS.o;omega):P:=h
theorem xI{P:Prop}(h:P:=by rw [cZ];exact O9.none d i m e zj zj zj):P:=h
theorem xJ{P:Prop}(h:P:=by intro w' ab;have q1:=ab;clear ab;go_simp;try with_reducible rfl):P:=h
theorem xK{P:Prop}(h:P:=by unfold nC;rw [if_neg cl,if_neg yq,if_pos hv]):P:=h
theorem xL{P:Prop}(h:P:=by rw [beq_eq_false_iff_ne];omega):P:=h
theorem xM{P:Prop}(h:P:=by simpa using hi):P:=h
theorem xN{P:Prop}(h:P:=by rw [hown.1];omega):P:=h
theorem xO{P:Prop}(h:P:=by rintro ⟨_,_,h⟩;exact h):P:=h
theorem xP{P:Prop}(h:P:=by have:=A2.o.m8;rw [HU.o.2.2.2] at this;exact this):P:=h
theorem xQ{P:Prop}(h:P:=by cases q):P:=h
theorem xR{P:Prop}(h:P:=by rw [Addr.add_lit,Ze,eT];exact hOv _ u (aW j u hj)):P:=h
theorem xS{P:Prop}(h:P:=by have:=A1.o.m8;rw [HU.o.2.2.2] at this;exact this):P:=h
theorem xT{P:Prop}(h:P:=by have:=jo.o;omega):P:=h
theorem xU{P:Prop}(h:P:=by rw [dt.o];exact HNN.o):P:=h
theorem xV{P:Prop}(h:P:=by simp [Lib.compareBytes,FU]):P:=h
theorem xW{P:Prop}(h:P:=by have:=HK.o;omega):P:=h
theorem xX{P:Prop}(h:P:=by rw [Gs xs p (by rw [mt] at hp;exact hp)]):P:=h
theorem xY{P:Prop}(h:P:=by rw [hw1];simp):P:=h
theorem xZ{P:Prop}(h:P:=by have:=hperm.length_eq;omega):P:=h
theorem vd{P:Prop}(h:P:=by have:=A2.o.2.2.1;omega):P:=h
theorem ve{P:Prop}(h:P:=by simp [tB] at h):P:=h
theorem vf{P:Prop}(h:P:=by rw [Nat.succ_mul]):P:=h
theorem vg{P:Prop}(h:P:=by rw [HR.o,DK];simp only [fZ,kR,hN3,kP,hN5,hX]):P:=h
theorem vh{P:Prop}(h:P:=by cases e;rfl):P:=h
theorem vi{P:Prop}(h:P:=by have:=HB.o.2.1;omega):P:=h
theorem vj{P:Prop}(h:P:=by rw [dt.o];exact hown):P:=h
theorem vm{P:Prop}(h:P:=by rw [h0] at hr;cases hr):P:=h
theorem vn{P:Prop}(h:P:=by rw [lU];exact (H2.o.2.2.2.1 x).2 (.inr hx)):P:=h
theorem vp{P:Prop}(h:P:=by simpa using hn):P:=h
theorem vr{P:Prop}(h:P:=by simp [World.frozen?,hb3]):P:=h
theorem vu{P:Prop}(h:P:=by simp [World.cell?,lE]):P:=h
theorem vv{P:Prop}(h:P:=by rw [Zj,ZP];exact hl):P:=h
theorem vw{P:Prop}(h:P:=by simp [results,Tryz.results69,go_sem,k0,k1,k2]):P:=h
theorem vx{P:Prop}(h:P:=by have:=H.o.2.2.2.1;show S<U.heap.size;omega):P:=h
theorem vy{P:Prop}(h:P:=by rw [<-lf.o,<-HL.o];exact decide_eq_true ik):P:=h
theorem vz{P:Prop}(h:P:=by rw [Zj,Zp];omega):P:=h
theorem vA{P:Prop}(h:P:=by have:=gV.o;simp;omega):P:=h
theorem vB{P:Prop}(h:P:=by simpa using h.z):P:=h
theorem vD{P:Prop}(h:P:=by rw [hS.o];exact hB):P:=h
theorem vE{P:Prop}(h:P:=by have e':=e;have:=HM.o.2.2.2.2.2.2.2.2.2;omega):P:=h
theorem vF{P:Prop}(h:P:=by rw [mG];omega):P:=h
theorem vG{P:Prop}(h:P:=by rw [Addr.add_lit,Ze];exact aW j u hj):P:=h
theorem vH{P:Prop}(h:P:=by have:=congrArg List.length hP;simpa using this):P:=h
theorem vI{P:Prop}(h:P:=by rw [hmin,hv]):P:=h
theorem vJ{P:Prop}(h:P:=by rw [alloc_eq_grow,alloc_eq_grow,grow_grow];rfl):P:=h
theorem vK{P:Prop}(h:P:=by cases e;exact ⟨uM _,fT.iter_walk⟩):P:=h
theorem vL{P:Prop}(h:P:=by rw [me mG hk zj];rfl):P:=h
theorem vM{P:Prop}(h:P:=by rw [hU,alloc_eq_grow,alloc_eq_grow,grow_grow]):P:=h
theorem vN{P:Prop}(h:P:=by subst hm;split<;>omega):P:=h
theorem vO{P:Prop}(h:P:=by have:=hb.size;omega):P:=h
theorem vP{P:Prop}(h:P:=by simp [World.cell?,hYb]):P:=h
theorem vQ{P:Prop}(h:P:=by rw [<-bY];exact ag):P:=h
theorem vR{P:Prop}(h:P:=by have:=h.2.2.2;omega):P:=h
theorem vT{P:Prop}(h:P:=by have:=h.2.2.1;omega):P:=h
theorem vV{P:Prop}(h:P:=by rw [hl,mt]):P:=h
theorem vW{P:Prop}(h:P:=by simp [MemPlace.row]):P:=h
theorem vX{P:Prop}(h:P:=by have:=(t4 nd).2 q;rw [hp] at this;cases this):P:=h
theorem vY{P:Prop}(h:P:=by simp [ByteArray.size]):P:=h
theorem vZ{P:Prop}(h:P:=by simp [World.cell?,kF]):P:=h
theorem ua{P:Prop}(h:P:=by have:=A.o.2.1;omega):P:=h
theorem ub{P:Prop}(h:P:=by have:=hS.o;omega):P:=h
theorem uc{P:Prop}(h:P:=by rw [hw1];exact zh w _):P:=h
theorem ud{P:Prop}(h:P:=by obtain ⟨_,_,_,_,_,_,_,_,k,_⟩:=h;exact k):P:=h
theorem ue{P:Prop}(h:P:=by grind [Maps.keyOf_int_inv,Tryz.underlying3]):P:=h
theorem uf{P:Prop}(h:P:=by rw [hp];rfl):P:=h
theorem ug{P:Prop}(h:P:=by show (L.getD k mM).2.1=_;rw [<-hpe.o]):P:=h
theorem uh{P:Prop}(h:P:=by simpa using mA ho (nI ho hb3 tyI)):P:=h
theorem ui{P:Prop}(h:P:=by have:=hb2.size;have:=H4.o.2.size;omega):P:=h
theorem uj{P:Prop}(h:P:=by rw [hD.o];simp [ByteArray.size,Bq]):P:=h
theorem uk{P:Prop}(h:P:=by rw [hc _ _ zl];simp [go_sem]):P:=h
theorem um{P:Prop}(h:P:=by unfold t8 at h;simp [World.cell?,h]):P:=h
theorem un{P:Prop}(h:P:=by rw [h.size];omega):P:=h
theorem uo{P:Prop}(h:P:=by have:=HL.o;omega):P:=h
theorem uq{P:Prop}(h:P:=by have:=hk2.size;omega):P:=h
theorem ur{P:Prop}(h:P:=by congr 1;omega):P:=h
theorem ut{P:Prop}(h:P:=by have:=HH.o.2.1;have:=hp.length_eq;omega):P:=h
theorem uu{P:Prop}(h:P:=by rw [List.length_eraseIdx,if_pos hk];omega):P:=h
theorem uv{P:Prop}(h:P:=by simp [results,Tryz.results356,go_sem]):P:=h
theorem uw{P:Prop}(h:P:=by simp at hl |-;omega):P:=h
theorem ux{P:Prop}(h:P:=by rw [h0,bM];exact heap_alloc_new w.drew _):P:=h
theorem uy{P:Prop}(h:P:=by rw [hV];exact (zh w _).alloc zq _):P:=h
theorem uz{P:Prop}(h:P:=by unfold World.ownsRow;rw [h0];exact hown):P:=h
theorem uA{P:Prop}(h:P:=by simp [Op.bytesLess]):P:=h
theorem uB{P:Prop}(h:P:=by have:=HSw.o;omega):P:=h
theorem uC{P:Prop}(h:P:=by simp;have:=H0.o.2.2.2.2.2.1;omega):P:=h
theorem uD{P:Prop}(h:P:=by have:=H0.o.2.2.2.2.2.2.2 q;cases this):P:=h
theorem za{α:Sort _}(x:α):∃U,U=x:=⟨x,rfl⟩
theorem ze{α:Sort _}(x:α):∃U,Aside (U=x):=⟨x,rfl⟩
theorem zg{n:Nat}:n≤n:=Nat.le_refl n
theorem zh(w:World)(o:Obj):Below w.heap.size w (w.alloc o):=(Below.refl _ w).alloc (Nat.le_refl _) o
theorem zi{a b c:World}(h:Below a.heap.size a b)(k:Below b.heap.size b c):Below a.heap.size a c:=h.trans (k.mono h.size)
theorem uE{P:Prop}(h:P:=by intro w' ab;have q:=ab.cell (b:=Sd) (o:=1) kz s1;clear ab;go_simp;try with_reducible rfl):P:=h
theorem uF{P:Prop}(h:P:=by have:=HD.out;rw [show k=s.size by omega,CC] at this;exact this.symm):P:=h
theorem uG{P:Prop}(h:P:=by have:=HA.out;rw [hb,Bool.false_and] at this;exact this.symm):P:=h
theorem uH{P:Prop}(h:P:=by rw [e];rfl):P:=h
theorem uI{P:Prop}(h:P:=by simp [World.frozen?,ZX]):P:=h
theorem uJ{P:Prop}(h:P:=by simp [results,Tryz.results278,go_sem,c0,c1]):P:=h
theorem uK:type_of%@List.getElem?_eq_some_iff:=@List.getElem?_eq_some_iff
theorem uL:type_of%@List.getElem?_eq_getElem:=@List.getElem?_eq_getElem
theorem uM:type_of%@Nat.le_refl:=@Nat.le_refl
theorem uN:type_of%@Array.getElem?_eq_some_iff:=@Array.getElem?_eq_some_iff
theorem uO:type_of%@Below.refl:=@Below.refl
theorem uP:type_of%@World.block_lt_of_cell?:=@World.block_lt_of_cell?
theorem uQ:type_of%@Nat.le_trans:=@Nat.le_trans
theorem uR:type_of%@List.mem_of_getElem?:=@List.mem_of_getElem?
theorem uS:type_of%@List.length_append:=@List.length_append
theorem uT:type_of%@Below.heap_alloc:=@Below.heap_alloc
theorem uU:type_of%@List.mem_append:=@List.mem_append
theorem uV:type_of%@World.cell?_of_block:=@World.cell?_of_block
theorem uW:type_of%@Nat.zero_le:=@Nat.zero_le
theorem uX:type_of%@List.setIfInBounds_toArray:=@List.setIfInBounds_toArray
theorem uY:type_of%@Nat.lt_of_lt_of_le:=@Nat.lt_of_lt_of_le
theorem uZ:type_of%@List.mem_cons:=@List.mem_cons
theorem Za:type_of%@List.mem_cons_of_mem:=@List.mem_cons_of_mem
theorem Zb:type_of%@List.getElem?_cons_zero:=@List.getElem?_cons_zero
theorem Zc:type_of%@List.mem_singleton:=@List.mem_singleton
theorem Zd:type_of%@List.length_cons:=@List.length_cons
theorem Ze:type_of%@Nat.zero_add:=@Nat.zero_add
theorem Zf:type_of%@List.getElem?_cons_succ:=@List.getElem?_cons_succ
theorem Zg:type_of%@List.set_cons_zero:=@List.set_cons_zero
theorem Zh:type_of%@List.set_cons_succ:=@List.set_cons_succ
theorem Zi:type_of%@List.length_eq_zero_iff:=@List.length_eq_zero_iff
theorem Zj:type_of%@List.length_map:=@List.length_map
theorem Zk:type_of%@World.ownsRow_nil:=@World.ownsRow_nil
theorem Zl:type_of%@List.take_of_length_le:=@List.take_of_length_le
theorem Zm:type_of%@List.mem_map:=@List.mem_map
theorem Zn:type_of%@List.size_toArray:=@List.size_toArray
theorem Zo:type_of%@List.mem_append_left:=@List.mem_append_left
theorem Zp:type_of%@List.length_take:=@List.length_take
theorem Zq:type_of%@List.mem_cons_self:=@List.mem_cons_self
theorem Zr:type_of%@List.append_assoc:=@List.append_assoc
theorem Zs:type_of%@World.cell?_setCell_other:=@World.cell?_setCell_other
theorem Zt:type_of%@List.length_nil:=@List.length_nil
theorem Zu:type_of%@World.frozen?_setCell:=@World.frozen?_setCell
theorem Zv:type_of%@World.size_alloc:=@World.size_alloc
theorem Zw:type_of%@List.pairwise_cons:=@List.pairwise_cons
theorem Zx:type_of%@Array.replicate_succ:=@Array.replicate_succ
theorem Zy:type_of%@Array.replicate_zero:=@Array.replicate_zero
theorem Zz:type_of%@List.map_append:=@List.map_append
theorem ZA:type_of%@List.take_append_drop:=@List.take_append_drop
theorem ZB:type_of%@ByteArray.toList_eq:=@ByteArray.toList_eq
theorem ZC:type_of%@List.append_toArray:=@List.append_toArray
theorem ZD:type_of%@List.mem_append_right:=@List.mem_append_right
theorem ZE:type_of%@List.nil_append:=@List.nil_append
theorem ZF:type_of%@List.take_add_one:=@List.take_add_one
theorem ZG:type_of%@Nat.add_zero:=@Nat.add_zero
theorem ZH:type_of%@List.push_toArray:=@List.push_toArray
theorem ZI:type_of%@List.cons_append:=@List.cons_append
theorem ZJ:type_of%@List.pairwise_iff_getElem:=@List.pairwise_iff_getElem
theorem ZK:type_of%@Nat.mul_le_mul_right:=@Nat.mul_le_mul_right
theorem ZL:type_of%@List.length_drop:=@List.length_drop
theorem ZM:type_of%@List.nodup_append:=@List.nodup_append
theorem ZN:type_of%@List.mem_of_mem_eraseIdx:=@List.mem_of_mem_eraseIdx
theorem ZO:type_of%@List.length_singleton:=@List.length_singleton
theorem ZP:type_of%@Array.length_toList:=@Array.length_toList
theorem ZQ:type_of%@List.getElem?_map:=@List.getElem?_map
theorem ZR:type_of%@List.map_cons:=@List.map_cons
theorem ZS:type_of%@List.not_mem_nil:=@List.not_mem_nil
theorem ZT:type_of%@List.getElem?_drop:=@List.getElem?_drop
theorem ZU:type_of%@List.getElem_toArray:=@List.getElem_toArray
theorem ZW:type_of%@Int.natCast_inj:=@Int.natCast_inj
theorem ZZ:type_of%@List.getElem_cons_succ:=@List.getElem_cons_succ
theorem Ya:type_of%@List.getElem_cons_zero:=@List.getElem_cons_zero
theorem Yb:type_of%@World.cell?_setCells_out:=@World.cell?_setCells_out
theorem Yc:type_of%@List.filter_append:=@List.filter_append
theorem Yd:type_of%@World.putObj_heap_other:=@World.putObj_heap_other
theorem Ye:type_of%@List.append_nil:=@List.append_nil
theorem Yf:type_of%@Array.getElem?_eq_getElem:=@Array.getElem?_eq_getElem
theorem Yg:type_of%@List.drop_eq_getElem_cons:=@List.drop_eq_getElem_cons
theorem Yh:type_of%@List.getElem?_append_left:=@List.getElem?_append_left
theorem Yi:type_of%@List.length_filter_le:=@List.length_filter_le
theorem Yj:type_of%@List.getElem?_take:=@List.getElem?_take
theorem Yk:type_of%@Bool.and_eq_true:=@Bool.and_eq_true
theorem Yl:type_of%@Option.isSome_iff_exists:=@Option.isSome_iff_exists
theorem Ym:type_of%@World.cell?_alloc_at:=@World.cell?_alloc_at
theorem Yn:type_of%@List.take_append_of_le_length:=@List.take_append_of_le_length
theorem Yo:type_of%@List.mem_filter:=@List.mem_filter
theorem Yp:type_of%@List.map_congr_left:=@List.map_congr_left
theorem Yq:type_of%@List.take_length:=@List.take_length
theorem Yr:type_of%@List.mem_filterMap:=@List.mem_filterMap
theorem Ys:type_of%@List.perm_append_comm:=@List.perm_append_comm
theorem Yt:type_of%@List.range_succ:=@List.range_succ
theorem Yu:type_of%@List.map_nil:=@List.map_nil
theorem Yv:type_of%@Nat.lt_or_ge:=@Nat.lt_or_ge
theorem Yw:type_of%@List.mem_of_mem_take:=@List.mem_of_mem_take
theorem Yx:type_of%@Nat.add_assoc:=@Nat.add_assoc
theorem Yy:type_of%@World.frozen?_setCells:=@World.frozen?_setCells
theorem Yz:type_of%@Nat.le_of_lt:=@Nat.le_of_lt
theorem YA:type_of%@List.drop_of_length_le:=@List.drop_of_length_le
theorem YB:type_of%@Option.isSome_none:=@Option.isSome_none
theorem YC:type_of%@Option.isSome_some:=@Option.isSome_some
theorem YD:type_of%@Option.map_some:=@Option.map_some
theorem YE:type_of%@List.pairwise_map:=@List.pairwise_map
theorem YF:type_of%@List.getD_eq_getElem?_getD:=@List.getD_eq_getElem?_getD
theorem YG:type_of%@Nat.add_mul:=@Nat.add_mul
theorem YH:type_of%@List.getElem_of_mem:=@List.getElem_of_mem
theorem YI:type_of%@List.length_pos_iff:=@List.length_pos_iff
theorem YJ:type_of%@World.news_of_block:=@World.news_of_block
theorem YK:type_of%@World.grownBy_alloc:=@World.grownBy_alloc
theorem YL:type_of%@List.length_filterMap_le:=@List.length_filterMap_le
theorem YM:type_of%@World.cell?_setCell_same:=@World.cell?_setCell_same
theorem YN:type_of%@List.length_set:=@List.length_set
theorem YO:type_of%@List.pairwise_singleton:=@List.pairwise_singleton
theorem YP:type_of%@Option.map_eq_some_iff:=@Option.map_eq_some_iff
theorem YQ:type_of%@List.map_map:=@List.map_map
theorem YR:type_of%@ByteArray.size_append:=@ByteArray.size_append
theorem YS:type_of%@Option.getD_some:=@Option.getD_some
theorem YT:type_of%@World.cell?_alloc_lt:=@World.cell?_alloc_lt
theorem YU:type_of%@List.mem_of_mem_drop:=@List.mem_of_mem_drop
theorem YV:type_of%@World.var?_cell:=@World.var?_cell
theorem YW:type_of%@Nat.min_eq_left:=@Nat.min_eq_left
theorem YX:type_of%@Bool.eq_iff_iff:=@Bool.eq_iff_iff
theorem YY:type_of%@World.ownsMap_made:=@World.ownsMap_made
theorem YZ:type_of%@List.nodup_nil:=@List.nodup_nil
theorem Qa:type_of%@Nat.lt_trichotomy:=@Nat.lt_trichotomy
theorem Qb:type_of%@Array.toList_inj:=@Array.toList_inj
theorem Qc:type_of%@List.getElem_mem:=@List.getElem_mem
theorem Qd:type_of%@World.cell?_alloc_past:=@World.cell?_alloc_past
theorem Qe:type_of%@Array.getElem?_toList:=@Array.getElem?_toList
