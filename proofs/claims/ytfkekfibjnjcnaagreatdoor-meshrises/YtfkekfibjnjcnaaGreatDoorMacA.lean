import Derived.WalkKit
import Derived.Deep.LoopGhost
import Derived.Deep.AppendLies
namespace Go
theorem Aside.o{p:Prop}(h:Aside p):p:=h
theorem RowKit.Hid.o{p:Prop}(h:RowKit.Hid p):p:=h
end Go
namespace Go.Proofs
open Go.RowKit
theorem zj{P:Prop}(h:P:=by omega):P:=h
theorem zk{P:Prop}(h:P:=by kernel_rfl):P:=h
theorem zl{P:Prop}(h:P:=by simp;omega):P:=h
theorem zm{P:Prop}(h:P:=by simp):P:=h
theorem zo{P:Prop}(h:P:=by intro w' hSw;have q9:=OpBlk.cells hSw.2;dsimp only at q9;obtain ⟨q0,q1,q2,q3,q4,q5,q6,q7,-⟩:=q9;clear hSw;go_simp;try with_reducible rfl):P:=h
theorem zq{P:Prop}(h:P:=by assumption):P:=h
theorem zr{P:Prop}(h:P:=by simp [World.cell?,Z2]):P:=h
theorem zt{P:Prop}(h:P:=by decide):P:=h
theorem zu{P:Prop}(h:P:=by rfl):P:=h
theorem zv{P:Prop}(h:P:=by rw [IntKind.wrap_i64];omega):P:=h
theorem zw{P:Prop}(h:P:=by simp only [maxLen];omega):P:=h
theorem zA{P:Prop}(h:P:=by intro w' hSw;have q1:=hSw.1.c0;clear hSw;go_simp;try with_reducible rfl):P:=h
theorem zB{P:Prop}(h:P:=by intro w' hSw;obtain ⟨k0,k1,k2,k3,k4,k5⟩:=hSw;go_simp;try with_reducible rfl):P:=h
theorem zD{P:Prop}(h:P:=by intro w' hSw;obtain ⟨j0,j1,j2,j3,j4,j5,j6,j7,-⟩:=OpBlk.cells hSw.1;dsimp only at j0 j1 j2 j3 j4 j5 j6 j7;clear hSw;go_simp;try with_reducible rfl):P:=h
theorem zF{P:Prop}(h:P:=by intro w' hSw;obtain ⟨j0,j1,j2,j3,j4,j5,j6,j7,-⟩:=OpBlk.cells hSw;dsimp only at j0 j1 j2 j3 j4 j5 j6 j7;go_simp;try with_reducible rfl):P:=h
theorem zG{P:Prop}(h:P:=by intro w' hSw;obtain ⟨k1,k2,k3,k4⟩:=hSw;go_simp;try with_reducible rfl):P:=h
theorem zH{P:Prop}(h:P:=by simp [results,Tryz.results252,go_sem,c0,c1,c2,c3,c4,c5,c6,c7]):P:=h
theorem zI{P:Prop}(h:P:=by rw [hU];exact (zh w _).alloc zm _):P:=h
theorem zJ{P:Prop}(h:P:=by have:=H0.o.2.2.2.1;omega):P:=h
theorem zK{P:Prop}(h:P:=by intro w' hSw;obtain ⟨k0,k1,k2⟩:=hSw;go_simp;try with_reducible rfl):P:=h
theorem zL{P:Prop}(h:P:=by go_num):P:=h
theorem zM{P:Prop}(h:P:=by simp [World.cell?,Z4]):P:=h
theorem zN{P:Prop}(h:P:=by unfold RepCell at h;simp [World.cell?,h]):P:=h
theorem zO{P:Prop}(h:P:=by simp at hx):P:=h
theorem zP{P:Prop}(h:P:=by rw [hU];exact zh w _):P:=h
theorem zQ{P:Prop}(h:P:=by have:=H0.o.2.2.2;omega):P:=h
theorem zR{P:Prop}(h:P:=by dsimp only;omega):P:=h
theorem zT{P:Prop}(h:P:=by unfold Func.isWrapper;first | (rw [if_pos yu];kernel_rfl) | (rw [if_neg yu];exact ⟨rfl,rfl⟩)):P:=h
theorem zV{P:Prop}(h:P:=by simp [World.cell?,T0]):P:=h
theorem zW{P:Prop}(h:P:=by rw [hU,hS];exact (vy _ _ _ zm).trans (KBox.new w ao cap R)):P:=h
theorem zX{P:Prop}(h:P:=by intro w' hSw;have j4:=(OpBlk.cells hSw.1).2.2.2.2.1;dsimp only at j4;clear hSw;go_simp;try with_reducible rfl):P:=h
theorem zY{P:Prop}(h:P:=by have:=(H3.o.1.new i hi).1.alloc (.cells #[.int .i64 t,.int .i64 (i:Int),.int .i64 n,.int .u8 (kd:Int),.int .i64 nd,.int .i64 o,.string s,.string v] 41);unfold kvs at this;rw [HLN.o,HAO.o] at this;exact this):P:=h
theorem zZ{P:Prop}(h:P:=by first | rfl | (congr 1;omega)):P:=h
theorem ya{P:Prop}(h:P:=by obtain ⟨Bx,f1,f2,f3⟩:=hs;exact ⟨Bx,f1,kept_cells f2 hg hr,f3⟩):P:=h
theorem yb{P:Prop}(h:P:=by have:=HB.o;omega):P:=h
theorem yc{P:Prop}(h:P:=by rw [hc _ _ zl];simp [go_sem]):P:=h
theorem ye{P:Prop}(h:P:=by simp [go_sem]):P:=h
theorem yg{P:Prop}(h:P:=by intro w' hSw;have q1:=hSw;clear hSw;go_simp;try with_reducible rfl):P:=h
theorem yh{P:Prop}(h:P:=by simp [World.frozen?,Z2]):P:=h
theorem yi{P:Prop}(h:P:=by simp only [Nat.min_def];split<;>omega):P:=h
theorem yj{P:Prop}(h:P:=by intro w' hSw;have q0:=hSw.at (i:=0) zj;have q1:=hSw.at (i:=1) zj;have q2:=hSw.at (i:=2) zj;have q3:=hSw.at (i:=3) zj;clear hSw;go_simp;try with_reducible rfl):P:=h
theorem yk{P:Prop}(h:P:=by unfold hueOf;omega):P:=h
theorem yl{P:Prop}(h:P:=by rw [alloc_eq_grow,alloc_eq_grow,grow_grow];rfl):P:=h
theorem ym{P:Prop}(h:P:=by simp [Act.eval,Act.put]):P:=h
theorem yn{P:Prop}(h:P:=by rw [hn];simp):P:=h
theorem yo{P:Prop}(h:P:=by intro w' hSw;have q2:=hSw.2;rw [hy.o] at q2;obtain ⟨q0,q1,q2,q3,q4,q5,q6,q7,-⟩:=OpBlk.cells q2;dsimp only at q0 q1 q2 q3 q4 q5 q6 q7;clear hSw;go_simp;try with_reducible rfl):P:=h
theorem yq{P:Prop}(h:P:=by intro w' hSw;have q2:=hSw;rw [hy.o] at q2;obtain ⟨q0,q1,q2,q3,q4,q5,q6,q7,-⟩:=OpBlk.cells q2;dsimp only at q0 q1 q2 q3 q4 q5 q6 q7;clear hSw;go_simp;try with_reducible rfl):P:=h
theorem yr{P:Prop}(h:P:=by simpa using e):P:=h
theorem yt{P:Prop}(h:P:=by rw [hS.o];exact vm _):P:=h
theorem yu{P:Prop}(h:P:=by decide+kernel):P:=h
theorem yw{P:Prop}(h:P:=by rw [e];exact hi):P:=h
theorem yy{P:Prop}(h:P:=by intro w' hSw;have lk:=(t2.same hSw.2.2).look1 hwf;rw [hp] at lk;unfold encT_ at lk;simp only [uX] at lk;clear hSw;go_simp;try with_reducible rfl):P:=h
theorem yA{P:Prop}(h:P:=by rw [hU.o];exact zh w _):P:=h
theorem yB{P:Prop}(h:P:=by simpa using hj):P:=h
theorem yC{P:Prop}(h:P:=by have:=row_le R hi;omega):P:=h
theorem yD{P:Prop}(h:P:=by rw [hU,hS];exact OpBlk.new w zeroO):P:=h
theorem yE{P:Prop}(h:P:=by rw [flat_len hk];simp [Nat.min_eq_left hi]):P:=h
theorem yF{P:Prop}(h:P:=by rw [ZG.2 (vV.2 ⟨x,hx,rfl⟩)];simp):P:=h
theorem yG{P:Prop}(h:P:=by simp [results,Tryz.results220,go_sem,c0,c1,c2,c3,c4,c5,c6,c7]):P:=h
theorem yH{P:Prop}(h:P:=by rw [hS.o];exact hE0.up hE0.t.env.size zg):P:=h
theorem yI{P:Prop}(h:P:=by have:=(A.o.new i hi).2 g hg;have:=A.o.hS.1;rw [e] at*;omega):P:=h
theorem yJ{P:Prop}(h:P:=by have e':k=S+1:=e;have:=HM.o.1.base;have:=H0.o.2.2.2;omega):P:=h
theorem yK{P:Prop}(h:P:=by simp [World.cell?,hv2]):P:=h
theorem yL{P:Prop}(h:P:=by simp only [vQ];omega):P:=h
theorem yM{P:Prop}(h:P:=by unfold maxLen;omega):P:=h
theorem yN{P:Prop}(h:P:=by intro w' hSw;have j5:=(OpBlk.cells hSw.1).2.2.2.2.2.1;dsimp only at j5;clear hSw;go_simp;try with_reducible rfl):P:=h
theorem yO{P:Prop}(h:P:=by have:=HPL.o;omega):P:=h
theorem yP{P:Prop}(h:P:=by have:=((A.o.new i hi).1.lt g hg).2;have:=HP.o;omega):P:=h
theorem yQ{P:Prop}(h:P:=by rw [vO];exact h.frozenAt j):P:=h
theorem yR{P:Prop}(h:P:=by cases h):P:=h
theorem yS{P:Prop}(h:P:=by have:=AX.below;rw [HU.o.2.2.2] at this;exact this):P:=h
theorem yT{P:Prop}(h:P:=by rw [e1];kernel_rfl):P:=h
theorem yU{P:Prop}(h:P:=by simp<;>omega):P:=h
theorem yV{P:Prop}(h:P:=by rw [hw1];exact (vu w.heap.size w).alloc zg _):P:=h
theorem yW{P:Prop}(h:P:=by rw [decide_eq_false_iff_not];omega):P:=h
theorem yX{P:Prop}(h:P:=by show ¬(y∈([]:List OpX));simp):P:=h
theorem yY{P:Prop}(h:P:=by simpa using hl):P:=h
theorem yZ{P:Prop}(h:P:=by simp [World.memory,World.forCall,Input.heap]):P:=h
theorem qa{P:Prop}(h:P:=by simp [results,Tryz.results188,go_sem,c0,c1]):P:=h
theorem qb{P:Prop}(h:P:=by have:=A.o.hS.2.1;rw [<-e,hcq] at this;omega):P:=h
theorem qd{P:Prop}(h:P:=by rw [beq_eq_false_iff_ne];omega):P:=h
theorem qe{P:Prop}(h:P:=by rw [ua];omega):P:=h
theorem qg{P:Prop}(h:P:=by rw [hU,hS];exact (vy _ _ _ zm).trans (OpBlk.new w (t,b,m,kd,nd,o,s,v))):P:=h
theorem qh{P:Prop}(h:P:=by rw [hV6.o];exact setCells_keeps bo _ _ V5):P:=h
theorem qi{P:Prop}(h:P:=by rw [hOwn] at e;have:=(hgP P e.symm).1;omega):P:=h
theorem qj{P:Prop}(h:P:=by simpa using HR.o):P:=h
theorem qk{P:Prop}(h:P:=by have:=tr2.length_eq;have:=List.length_filterMap_le movO A;unfold movsO at*;omega):P:=h
theorem ql{P:Prop}(h:P:=by simpa using hn):P:=h
theorem qm{P:Prop}(h:P:=by have q':k=S+1:=q;have:=H0.o.2.2.2;omega):P:=h
theorem qo{P:Prop}(h:P:=by rw [hOwn] at e;exact (hgP S e.symm).2 rfl):P:=h
theorem qp{P:Prop}(h:P:=by simp at h):P:=h
theorem qq{P:Prop}(h:P:=by simp [World.cell?,HA.o.2.2.2.2.1]):P:=h
theorem qr{P:Prop}(h:P:=by cases hg):P:=h
theorem qt{P:Prop}(h:P:=by unfold PlcAt at h;simp [World.cell?,h]):P:=h
theorem qu{P:Prop}(h:P:=by rw [ua,hxl]):P:=h
theorem qv{P:Prop}(h:P:=by have:=HD.o;rw [show k=s.size by omega,dropEnd] at this;exact this.symm):P:=h
theorem qw{P:Prop}(h:P:=by rw [hee,show mid+m - i - 1=mid+m - 1 - i by omega];exact ED.o.2 zj):P:=h
theorem qx{P:Prop}(h:P:=by rw [h0] at hr;cases hr):P:=h
theorem qy{P:Prop}(h:P:=by obtain ⟨x,hx,_⟩:=Maps.keyOf_int_inv Tryz.underlying3 hk;exact ⟨x,hx⟩):P:=h
theorem qz{P:Prop}(h:P:=by intro w' hSw;have r7:=hSw.2.1.c7;clear hSw;go_simp;try with_reducible rfl):P:=h
theorem qA{P:Prop}(h:P:=by rw [cellsM_len];omega):P:=h
theorem qB{P:Prop}(h:P:=by rw [size_flatK];omega):P:=h
theorem qC{P:Prop}(h:P:=by cases e):P:=h
theorem qD{P:Prop}(h:P:=by rw [hw1,hB];exact heap_alloc_new w _):P:=h
theorem qE{P:Prop}(h:P:=by simpa using Array.mem_of_getElem? ht):P:=h
theorem qF{P:Prop}(h:P:=by rw [cellsP_len];omega):P:=h
theorem qG{P:Prop}(h:P:=by rw [decide_eq_false zj];rfl):P:=h
theorem qH{P:Prop}(h:P:=by simp only [maxLen] at hmax;omega):P:=h
theorem qI{P:Prop}(h:P:=by simp [Value.oneCell']):P:=h
theorem qJ{P:Prop}(h:P:=by intro w' hSw;have q1:=hSw.1.c1;clear hSw;go_simp;try with_reducible rfl):P:=h
theorem qK{P:Prop}(h:P:=by simpa using hW'.lt x jh):P:=h
theorem qL{P:Prop}(h:P:=by intro w' hSw;have r6:=hSw.2.c6;clear hSw;go_simp;try with_reducible rfl):P:=h
theorem qM{P:Prop}(h:P:=by rw [hdl] at hj;omega):P:=h
theorem qN{P:Prop}(h:P:=by have:=B7.o.2;omega):P:=h
theorem qO{P:Prop}(h:P:=by simpa using h):P:=h
theorem qP{P:Prop}(h:P:=by simpa using hk):P:=h
theorem qQ{P:Prop}(h:P:=by rw [TG.o p hp zj,TG.o q zj zj];exact hpq):P:=h
theorem qR{P:Prop}(h:P:=by simp [World.cell?,hS1]):P:=h
theorem qS{P:Prop}(h:P:=by simp [World.cell?,hu1]):P:=h
theorem qT{P:Prop}(h:P:=by have:=h.2.2.2;omega):P:=h
theorem qU{P:Prop}(h:P:=by rw [Zr];congr 1;omega):P:=h
theorem qV{P:Prop}(h:P:=by rw [hdl,hmin];omega):P:=h
theorem qW{P:Prop}(h:P:=by have:=A.o.ne;have:=HP.o;omega):P:=h
theorem qX{P:Prop}(h:P:=by have:=HZ9.o.2.2.1.len (r:=a) zj;have:=HSH.o.1;omega):P:=h
theorem qY{P:Prop}(h:P:=by rw [e2] at hg;rw [e1];exact hg):P:=h
theorem qZ{P:Prop}(h:P:=by simp [World.cell?,hw]):P:=h
theorem xb{P:Prop}(h:P:=by rw [<-e];exact hg):P:=h
theorem xc{P:Prop}(h:P:=by rw [hd1];exact Rot.none d i m e zj zj zj):P:=h
theorem xe{P:Prop}(h:P:=by have:=HS.o;omega):P:=h
theorem xf{P:Prop}(h:P:=by rw [e] at hkd;rcases hkd with k | k<;>exact absurd k zt):P:=h
theorem xg{P:Prop}(h:P:=by simpa using hi):P:=h
theorem xh{P:Prop}(h:P:=by unfold moveE;rw [if_neg hsh,if_neg yn,if_pos hv]):P:=h
theorem xi{P:Prop}(h:P:=by show (1:Nat)<=1000000;omega):P:=h
theorem xj{P:Prop}(h:P:=by rw [vw,vw,htl,hv,hdl];omega):P:=h
theorem xl{P:Prop}(h:P:=by have:=HI.o.1.inv.len;omega):P:=h
theorem xm{P:Prop}(h:P:=by rw [hsz];exact vm _):P:=h
theorem xp{P:Prop}(h:P:=by rw [hown.1];omega):P:=h
theorem xq{P:Prop}(h:P:=by simp [hy]):P:=h
theorem xr{P:Prop}(h:P:=by rw [Addr.add_lit,vO,hWc];exact hOv _ u (hvs j u hj)):P:=h
theorem xu{P:Prop}(h:P:=by rw [HLN.o];exact HNN.o):P:=h
theorem xv{P:Prop}(h:P:=by have:=A2.o.below;rw [HU.o.2.2.2] at this;exact this):P:=h
theorem xw{P:Prop}(h:P:=by have:=A1.o.below;rw [HU.o.2.2.2] at this;exact this):P:=h
theorem xx{P:Prop}(h:P:=by rw [hK r hr];exact rowsK_nil):P:=h
theorem xz{P:Prop}(h:P:=by rw [hp];rfl):P:=h
theorem xA{P:Prop}(h:P:=by rw [e2];exact LaidIn.none):P:=h
theorem xB{P:Prop}(h:P:=by have:=HK.o;omega):P:=h
theorem xC{P:Prop}(h:P:=by rw [tagged_at xs p (by rw [tagged_size] at hp;exact hp)]):P:=h
theorem xD{P:Prop}(h:P:=by rw [HR.o,numsP];simp only [hN1,hN2,hN3,hN4,hN5,hX]):P:=h
theorem xE{P:Prop}(h:P:=by have hb:=hbytes;simp only [vO] at hb;omega):P:=h
theorem xF{P:Prop}(h:P:=by rw [<-e]):P:=h
theorem xG{P:Prop}(h:P:=by rw [hf];exact k):P:=h
theorem xH{P:Prop}(h:P:=by rcases e with e | e<;>omega):P:=h
theorem xI{P:Prop}(h:P:=by rw [hw1];simp):P:=h
theorem xJ{P:Prop}(h:P:=by have:=hperm.length_eq;omega):P:=h
theorem xK{P:Prop}(h:P:=by have:=hp.1;simpa using this):P:=h
theorem xL{P:Prop}(h:P:=by rw [<-hOwn];exact hgrow):P:=h
theorem xM{P:Prop}(h:P:=by rw [hzb,hik];exact growslice_fits hroom zj):P:=h
theorem xN{P:Prop}(h:P:=by rw [HLN.o];exact hown):P:=h
theorem xO{P:Prop}(h:P:=by have e':k=S+1:=e;have:=HM.o.2.2.2.2.2.2.2.2.2;omega):P:=h
theorem xP{P:Prop}(h:P:=by rw [e];rfl):P:=h
theorem xQ{P:Prop}(h:P:=by simp [World.cell?,hu1']):P:=h
theorem xR{P:Prop}(h:P:=by rw [Nat.succ_mul]):P:=h
theorem xS{P:Prop}(h:P:=by rw [ue,uk];exact h1):P:=h
theorem xT{P:Prop}(h:P:=by rw [encX_len];exact hc):P:=h
theorem xU{P:Prop}(h:P:=by rw [e,hbw.o];exact hSu0):P:=h
theorem xV{P:Prop}(h:P:=by have:=HB.o.2.1;omega):P:=h
theorem xW{P:Prop}(h:P:=by have:=htot.o;simp;omega):P:=h
theorem xX{P:Prop}(h:P:=by simpa using h1):P:=h
theorem xY{P:Prop}(h:P:=by rw [setAt_is];exact (H2.o.2.2.2.1 x).2 (.inr hx)):P:=h
theorem xZ{P:Prop}(h:P:=by rw [<-HQN.o,<-HL.o];exact decide_eq_true hlv):P:=h
theorem jb{P:Prop}(h:P:=by simp at e):P:=h
theorem jc{P:Prop}(h:P:=by have:=HSH.o.1;omega):P:=h
theorem jd{P:Prop}(h:P:=by rw [cellsOf_len];omega):P:=h
theorem je{P:Prop}(h:P:=by rw [ue,uk];exact hl):P:=h
theorem jg{P:Prop}(h:P:=by simp [h0]):P:=h
theorem jh{P:Prop}(h:P:=by simp [hx]):P:=h
theorem ji{P:Prop}(h:P:=by show ¬(109=_);decide):P:=h
theorem jj{P:Prop}(h:P:=by rw [hS.o];exact hB):P:=h
theorem jk{P:Prop}(h:P:=by rw [Addr.add_lit,vO];exact hvs j u hj):P:=h
theorem jl{P:Prop}(h:P:=by unfold ltX at*;rw [lessB_is] at*;simp at*;omega):P:=h
theorem jm{P:Prop}(h:P:=by show B<=B+1+1;omega):P:=h
theorem jo{P:Prop}(h:P:=by cases e;exact ⟨vm _,hrg.iter_walk⟩):P:=h
theorem jp{P:Prop}(h:P:=by rw [allR_nil (hK r hr)]):P:=h
theorem jq{P:Prop}(h:P:=by have:=congrArg List.length hP;simpa using this):P:=h
theorem jr{P:Prop}(h:P:=by rw [hmin,hv]):P:=h
theorem js{P:Prop}(h:P:=by rw [hl,tagged_size]):P:=h
theorem jt{P:Prop}(h:P:=by simp [World.cell?,hYb]):P:=h
theorem ju{P:Prop}(h:P:=by simp [bytesV]):P:=h
theorem jw{P:Prop}(h:P:=by rw [allR_nil H3.o.2.2.2.1] at ha;simp at ha):P:=h
theorem jx{P:Prop}(h:P:=by simp [World.cell?,hd2]):P:=h
theorem jy{P:Prop}(h:P:=by have:=h.2.2.1;omega):P:=h
theorem jz{P:Prop}(h:P:=by have:=hI.len hr;omega):P:=h
theorem jA{P:Prop}(h:P:=by have:=HB1.o.size;rw [hS.o];exact this):P:=h
theorem jB{P:Prop}(h:P:=by rw [hv];simp):P:=h
theorem jC{P:Prop}(h:P:=by simpa using hd):P:=h
theorem jD{P:Prop}(h:P:=by rw [hU.o];exact (zh w _).alloc zm _):P:=h
theorem jE{P:Prop}(h:P:=by have:=(t4 nd).2 q;rw [hp] at this;cases this):P:=h
theorem jF{P:Prop}(h:P:=by simpa using hx):P:=h
theorem jG{P:Prop}(h:P:=by rw [hw1];exact zh w _):P:=h
theorem jH{P:Prop}(h:P:=by have:=A.o.2.1;omega):P:=h
theorem jI{P:Prop}(h:P:=by rw [HLN.o];exact e2):P:=h
theorem jJ{P:Prop}(h:P:=by have:=hS.o;omega):P:=h
theorem jK{P:Prop}(h:P:=by show B<=B+1;omega):P:=h
theorem jL{P:Prop}(h:P:=by simp [hz]):P:=h
theorem jM{P:Prop}(h:P:=by obtain ⟨_,_,_,_,_,_,_,_,k,_⟩:=h;exact k):P:=h
theorem jN{P:Prop}(h:P:=by rw [hD.o];simp [ByteArray.size,digs_len]):P:=h
theorem jO{P:Prop}(h:P:=by rw [List.length_eraseIdx,if_pos hk];omega):P:=h
theorem jP{P:Prop}(h:P:=by rw [vw,hal,hdl];omega):P:=h
theorem jQ{P:Prop}(h:P:=by have:=HH.o.2.1;have:=hp.length_eq;omega):P:=h
theorem jR{P:Prop}(h:P:=by congr 1;omega):P:=h
theorem jS{P:Prop}(h:P:=by have:=hk2.size;omega):P:=h
theorem jT{P:Prop}(h:P:=by rw [h0,hW1];exact heap_alloc_new w.drew _):P:=h
theorem jU{P:Prop}(h:P:=by simp at hl |-;omega):P:=h
theorem jV{P:Prop}(h:P:=by unfold TreeCell at h;simp [World.cell?,h]):P:=h
theorem jW{P:Prop}(h:P:=by simp [results,Tryz.results241,go_sem]):P:=h
theorem jX{P:Prop}(h:P:=by rw [h.size];omega):P:=h
theorem jY{P:Prop}(h:P:=by simp;have:=H3.o.1.below.size;omega):P:=h
theorem jZ{P:Prop}(h:P:=by have:=H0.o.2.2.2.2.2.2.2 q;cases this):P:=h
theorem vd{P:Prop}(h:P:=by have:=HSw.o;omega):P:=h
theorem ve{P:Prop}(h:P:=by show U.cell? _=_;simp [World.cell?,hu1]):P:=h
theorem vf{P:Prop}(h:P:=by unfold World.ownsRow;rw [h0];exact hown):P:=h
theorem vg{P:Prop}(h:P:=by show U.cell? _=_;simp [World.cell?,hu0]):P:=h
theorem vh{P:Prop}(h:P:=by simp [Op.bytesLess]):P:=h
theorem za{α:Sort _}(x:α):∃U,U=x:=⟨x,rfl⟩
theorem ze{α:Sort _}(x:α):∃U,Aside (U=x):=⟨x,rfl⟩
theorem zg{n:Nat}:n≤n:=Nat.le_refl n
theorem zh(w:World)(o:Obj):Below w.heap.size w (w.alloc o):=(Below.refl _ w).alloc (Nat.le_refl _) o
theorem zi{a b c:World}(h:Below a.heap.size a b)(k:Below b.heap.size b c):Below a.heap.size a c:=h.trans (k.mono h.size)
theorem vi:type_of%@List.getElem?_eq_some_iff:=@List.getElem?_eq_some_iff
theorem vj:type_of%@List.getElem?_eq_getElem:=@List.getElem?_eq_getElem
theorem vm:type_of%@Nat.le_refl:=@Nat.le_refl
theorem vn:type_of%@Array.getElem?_eq_some_iff:=@Array.getElem?_eq_some_iff
theorem vp:type_of%@World.block_lt_of_cell?:=@World.block_lt_of_cell?
theorem vr:type_of%@Nat.le_trans:=@Nat.le_trans
theorem vu:type_of%@Below.refl:=@Below.refl
theorem vv:type_of%@List.mem_append:=@List.mem_append
theorem vw:type_of%@List.length_append:=@List.length_append
theorem vx:type_of%@List.mem_of_getElem?:=@List.mem_of_getElem?
theorem vy:type_of%@Below.heap_alloc:=@Below.heap_alloc
theorem vz:type_of%@List.mem_cons:=@List.mem_cons
theorem vA:type_of%@List.mem_singleton:=@List.mem_singleton
theorem vB:type_of%@List.setIfInBounds_toArray:=@List.setIfInBounds_toArray
theorem vD:type_of%@Nat.zero_le:=@Nat.zero_le
theorem vE:type_of%@ByteArray.toList_eq:=@ByteArray.toList_eq
theorem vF:type_of%@List.mem_cons_of_mem:=@List.mem_cons_of_mem
theorem vG:type_of%@List.take_of_length_le:=@List.take_of_length_le
theorem vH:type_of%@List.length_cons:=@List.length_cons
theorem vI:type_of%@World.cell?_of_block:=@World.cell?_of_block
theorem vJ:type_of%@Nat.lt_of_lt_of_le:=@Nat.lt_of_lt_of_le
theorem vK:type_of%@List.set_cons_zero:=@List.set_cons_zero
theorem vL:type_of%@List.set_cons_succ:=@List.set_cons_succ
theorem vM:type_of%@List.length_eq_zero_iff:=@List.length_eq_zero_iff
theorem vN:type_of%@List.mem_append_left:=@List.mem_append_left
theorem vO:type_of%@Nat.zero_add:=@Nat.zero_add
theorem vP:type_of%@List.length_take:=@List.length_take
theorem vQ:type_of%@World.size_alloc:=@World.size_alloc
theorem vR:type_of%@List.append_assoc:=@List.append_assoc
theorem vT:type_of%@List.length_nil:=@List.length_nil
theorem vV:type_of%@List.mem_map:=@List.mem_map
theorem vW:type_of%@List.mem_cons_self:=@List.mem_cons_self
theorem vX:type_of%@List.take_append_drop:=@List.take_append_drop
theorem vY:type_of%@List.size_toArray:=@List.size_toArray
theorem vZ:type_of%@List.take_append_of_le_length:=@List.take_append_of_le_length
theorem ua:type_of%@List.length_drop:=@List.length_drop
theorem ub:type_of%@List.mem_append_right:=@List.mem_append_right
theorem uc:type_of%@List.sublist_append_right:=@List.sublist_append_right
theorem ud:type_of%@World.ownsRow_nil:=@World.ownsRow_nil
theorem ue:type_of%@List.length_map:=@List.length_map
theorem uf:type_of%@List.nodup_append:=@List.nodup_append
theorem ug:type_of%@List.map_cons:=@List.map_cons
theorem uh:type_of%@List.pairwise_iff_getElem:=@List.pairwise_iff_getElem
theorem ui:type_of%@Nat.add_zero:=@Nat.add_zero
theorem uj:type_of%@Nat.mul_le_mul_right:=@Nat.mul_le_mul_right
theorem uk:type_of%@Array.length_toList:=@Array.length_toList
theorem ul:type_of%@Array.replicate_succ:=@Array.replicate_succ
theorem um:type_of%@Array.replicate_zero:=@Array.replicate_zero
theorem un:type_of%@List.getElem?_take:=@List.getElem?_take
theorem uo:type_of%@List.append_toArray:=@List.append_toArray
theorem uq:type_of%@List.map_append:=@List.map_append
theorem ur:type_of%@List.append_nil:=@List.append_nil
theorem ut:type_of%@List.take_add_one:=@List.take_add_one
theorem uu:type_of%@List.getElem?_map:=@List.getElem?_map
theorem uv:type_of%@List.pairwise_cons:=@List.pairwise_cons
theorem uw:type_of%@List.getElem?_drop:=@List.getElem?_drop
theorem ux:type_of%@List.cons_append:=@List.cons_append
theorem uy:type_of%@List.push_toArray:=@List.push_toArray
theorem uz:type_of%@List.mem_of_mem_take:=@List.mem_of_mem_take
theorem uA:type_of%@List.nil_append:=@List.nil_append
theorem uB:type_of%@List.getElem_of_mem:=@List.getElem_of_mem
theorem uC:type_of%@List.length_singleton:=@List.length_singleton
theorem uD:type_of%@List.filter_append:=@List.filter_append
theorem uE:type_of%@List.getElem_toArray:=@List.getElem_toArray
theorem uF:type_of%@World.news_of_block:=@World.news_of_block
theorem uG:type_of%@List.perm_append_comm:=@List.perm_append_comm
theorem uH:type_of%@List.length_filter_le:=@List.length_filter_le
theorem uI:type_of%@List.drop_eq_getElem_cons:=@List.drop_eq_getElem_cons
theorem uJ:type_of%@List.extract_eq_take_drop:=@List.extract_eq_take_drop
theorem uK:type_of%@Nat.lt_or_ge:=@Nat.lt_or_ge
theorem uL:type_of%@World.cell?_setCells_out:=@World.cell?_setCells_out
theorem uM:type_of%@List.sublist_append_left:=@List.sublist_append_left
theorem uN:type_of%@List.length_pos_iff:=@List.length_pos_iff
theorem uO:type_of%@List.map_congr_left:=@List.map_congr_left
theorem uP:type_of%@List.drop_zero:=@List.drop_zero
theorem uQ:type_of%@Bool.and_eq_true:=@Bool.and_eq_true
theorem uR:type_of%@List.take_length:=@List.take_length
theorem uS:type_of%@List.map_nil:=@List.map_nil
theorem uT:type_of%@List.drop_of_length_le:=@List.drop_of_length_le
theorem uU:type_of%@World.frozen?_setCells:=@World.frozen?_setCells
theorem uV:type_of%@List.getElem_cons_succ:=@List.getElem_cons_succ
theorem uW:type_of%@List.getElem_cons_zero:=@List.getElem_cons_zero
theorem uX:type_of%@Option.map_some:=@Option.map_some
theorem uY:type_of%@Nat.add_assoc:=@Nat.add_assoc
theorem uZ:type_of%@List.mem_of_mem_drop:=@List.mem_of_mem_drop
theorem Za:type_of%@List.pairwise_append:=@List.pairwise_append
theorem Zb:type_of%@Nat.add_mul:=@Nat.add_mul
theorem Zc:type_of%@List.not_mem_nil:=@List.not_mem_nil
theorem Zd:type_of%@List.getElem?_append_left:=@List.getElem?_append_left
theorem Ze:type_of%@Array.getElem?_eq_getElem:=@Array.getElem?_eq_getElem
theorem Zf:type_of%@Option.isSome_iff_exists:=@Option.isSome_iff_exists
theorem Zg:type_of%@List.range_succ:=@List.range_succ
theorem Zh:type_of%@List.mem_filter:=@List.mem_filter
theorem Zi:type_of%@List.mem_filterMap:=@List.mem_filterMap
theorem Zj:type_of%@List.nodup_nil:=@List.nodup_nil
theorem Zk:type_of%@Int.le_of_lt:=@Int.le_of_lt
theorem Zl:type_of%@List.all_eq_true:=@List.all_eq_true
theorem Zm:type_of%@List.sum_cons:=@List.sum_cons
theorem Zn:type_of%@World.cell?_alloc_lt:=@World.cell?_alloc_lt
theorem Zo:type_of%@List.length_set:=@List.length_set
theorem Zp:type_of%@List.filter_eq_self:=@List.filter_eq_self
theorem Zq:type_of%@Nat.pow_succ:=@Nat.pow_succ
theorem Zr:type_of%@List.take_take:=@List.take_take
theorem Zs:type_of%@List.getD_eq_getElem?_getD:=@List.getD_eq_getElem?_getD
theorem Zt:type_of%@Option.isSome_none:=@Option.isSome_none
theorem Zu:type_of%@Option.isSome_some:=@Option.isSome_some
theorem Zv:type_of%@Array.getElem?_append_left:=@Array.getElem?_append_left
theorem Zw:type_of%@List.perm_ext_iff_of_nodup:=@List.perm_ext_iff_of_nodup
theorem Zx:type_of%@List.mem_of_mem_eraseIdx:=@List.mem_of_mem_eraseIdx
theorem Zy:type_of%@Option.getD_some:=@Option.getD_some
theorem Zz:type_of%@List.pairwise_singleton:=@List.pairwise_singleton
theorem ZA:type_of%@Nat.mul_comm:=@Nat.mul_comm
theorem ZB:type_of%@Nat.le_of_lt:=@Nat.le_of_lt
theorem ZC:type_of%@List.getElem?_set_self:=@List.getElem?_set_self
theorem ZD:type_of%@World.frozen?_of_block:=@World.frozen?_of_block
theorem ZE:type_of%@World.cell?_alloc_past:=@World.cell?_alloc_past
theorem ZF:type_of%@List.sum_nil:=@List.sum_nil
theorem ZG:type_of%@List.contains_iff_mem:=@List.contains_iff_mem
theorem ZH:type_of%@Array.getElem?_toList:=@Array.getElem?_toList
