import Derived.WalkKit
import Derived.Deep.LoopGhost
import Derived.Deep.AppendLies
import Derived.RangeFuncRecord
namespace Go
theorem Aside.o{p:Prop}(h:Aside p):p:=h
theorem RowKit.Hid.o{p:Prop}(h:RowKit.Hid p):p:=h
end Go
namespace Go.Proofs
open Go.RowKit
theorem zi{P:Prop}(h:P:=by omega):P:=h
theorem zj{P:Prop}(h:P:=by kernel_rfl):P:=h
theorem zk{P:Prop}(h:P:=by simp;omega):P:=h
theorem zl{P:Prop}(h:P:=by assumption):P:=h
theorem zm{P:Prop}(h:P:=by simp):P:=h
theorem zo{P:Prop}(h:P:=by decide):P:=h
theorem zq{P:Prop}(h:P:=by rw [IntKind.wrap_i64];omega):P:=h
theorem zr{P:Prop}(h:P:=by intro w' hSw;obtain ⟨k0,k1,k2,k3,k4,k5⟩:=hSw;go_simp;try with_reducible rfl):P:=h
theorem zt{P:Prop}(h:P:=by intro w' hSw;obtain ⟨j0,j1,j2,j3,j4,j5,j6,j7,-⟩:=OpBlk.cells hSw.1;dsimp only at j0 j1 j2 j3 j4 j5 j6 j7;clear hSw;go_simp;try with_reducible rfl):P:=h
theorem zu{P:Prop}(h:P:=by rfl):P:=h
theorem zv{P:Prop}(h:P:=by intro w' hSw;obtain ⟨k0,k1,k2⟩:=hSw;go_simp;try with_reducible rfl):P:=h
theorem zw{P:Prop}(h:P:=by go_num):P:=h
theorem zA{P:Prop}(h:P:=by intro w' hSw;obtain ⟨j0,j1,j2,j3,j4,j5,j6,j7,-⟩:=OpBlk.cells hSw;dsimp only at j0 j1 j2 j3 j4 j5 j6 j7;go_simp;try with_reducible rfl):P:=h
theorem zB{P:Prop}(h:P:=by intro w' hSw;obtain ⟨k1,k2,k3,k4⟩:=hSw;go_simp;try with_reducible rfl):P:=h
theorem zD{P:Prop}(h:P:=by simp only [maxLen];omega):P:=h
theorem zF{P:Prop}(h:P:=by have:=H0.o.2.2.2.1;omega):P:=h
theorem zG{P:Prop}(h:P:=by rw [hU];exact (zg w _).alloc zm _):P:=h
theorem zH{P:Prop}(h:P:=by rw [alloc_eq_grow,alloc_eq_grow,grow_grow];rfl):P:=h
theorem zI{P:Prop}(h:P:=by unfold RepCell at h;simp [World.cell?,h]):P:=h
theorem zJ{P:Prop}(h:P:=by rw [hU];exact zg w _):P:=h
theorem zK{P:Prop}(h:P:=by obtain ⟨Bx,f1,f2,f3⟩:=hs;exact ⟨Bx,f1,kept_cells f2 hg hr,f3⟩):P:=h
theorem zL{P:Prop}(h:P:=by intro k hk;simp [Value.ownBlock] at hk):P:=h
theorem zM{P:Prop}(h:P:=by rw [hU,hS];exact (jp _ _ _ zm).trans (KBox.new w ao cap R)):P:=h
theorem zN{P:Prop}(h:P:=by dsimp only;omega):P:=h
theorem zO{P:Prop}(h:P:=by intro w' hSw;have j4:=(OpBlk.cells hSw.1).2.2.2.2.1;dsimp only at j4;clear hSw;go_simp;try with_reducible rfl):P:=h
theorem zP{P:Prop}(h:P:=by have:=(H3.o.1.new i hi).1.alloc (.cells #[.int .i64 t,.int .i64 (i:Int),.int .i64 n,.int .u8 (kd:Int),.int .i64 nd,.int .i64 o,.string s,.string v] 38);unfold kvs at this;rw [HLN.o,HAO.o] at this;exact this):P:=h
theorem zQ{P:Prop}(h:P:=by first | rfl | (congr 1;omega)):P:=h
theorem zR{P:Prop}(h:P:=by rw [hc _ _ zk];simp [go_sem]):P:=h
theorem zT{P:Prop}(h:P:=by intro w' hSw;obtain ⟨k0,k2⟩:=hSw;go_simp;try with_reducible rfl):P:=h
theorem zV{P:Prop}(h:P:=by have:=H0.o.2.2.2;omega):P:=h
theorem zW{P:Prop}(h:P:=by simp only [Nat.min_def];split<;>omega):P:=h
theorem zX{P:Prop}(h:P:=by unfold hueOf;omega):P:=h
theorem zY{P:Prop}(h:P:=by simp [Act.eval,Act.put]):P:=h
theorem zZ{P:Prop}(h:P:=by simpa using e):P:=h
theorem ya{P:Prop}(h:P:=by rw [<-flat_append,jH]):P:=h
theorem yb{P:Prop}(h:P:=by rw [hn];simp):P:=h
theorem yc{P:Prop}(h:P:=by intro w' hSw;have lk:=(t2.same hSw.2.2).look1 hwf;rw [hp] at lk;unfold encT_ at lk;simp only [ut] at lk;clear hSw;go_simp;try with_reducible rfl):P:=h
theorem ye{P:Prop}(h:P:=by rw [jI];omega):P:=h
theorem yg{P:Prop}(h:P:=by simpa using hj):P:=h
theorem yh{P:Prop}(h:P:=by have:=row_le R hi;omega):P:=h
theorem yi{P:Prop}(h:P:=by rw [cellsP_len];omega):P:=h
theorem yj{P:Prop}(h:P:=by rw [hU,hS];exact OpBlk.new w zeroO):P:=h
theorem yk{P:Prop}(h:P:=by rw [flat_len hk];simp [Nat.min_eq_left hi]):P:=h
theorem yl{P:Prop}(h:P:=by rw [jA,jK,HK.o.1,HK.o.2];omega):P:=h
theorem ym{P:Prop}(h:P:=by have:=(A.o.new i hi).2 g hg;have:=A.o.hS.1;rw [e] at*;omega):P:=h
theorem yn{P:Prop}(h:P:=by simp [go_sem]):P:=h
theorem yo{P:Prop}(h:P:=by rw [jG];omega):P:=h
theorem yq{P:Prop}(h:P:=by simp [World.cell?,hv2]):P:=h
theorem yr{P:Prop}(h:P:=by rw [jz];omega):P:=h
theorem yt{P:Prop}(h:P:=by simp only [jI];omega):P:=h
theorem yu{P:Prop}(h:P:=by have:=((A.o.new i hi).1.lt g hg).2;have:=HP.o;omega):P:=h
theorem yv{P:Prop}(h:P:=by intro w' hSw;have j5:=(OpBlk.cells hSw.1).2.2.2.2.2.1;dsimp only at j5;clear hSw;go_simp;try with_reducible rfl):P:=h
theorem yw{P:Prop}(h:P:=by simp at h):P:=h
theorem yy{P:Prop}(h:P:=by simp at hx):P:=h
theorem yA{P:Prop}(h:P:=by cases h):P:=h
theorem yB{P:Prop}(h:P:=by simp<;>omega):P:=h
theorem yC{P:Prop}(h:P:=by have:=FQ.o;omega):P:=h
theorem yD{P:Prop}(h:P:=by rw [jt];exact hc j u hj):P:=h
theorem yE{P:Prop}(h:P:=by have:=H5.o.2.2.2.1;rcases e with q | q<;>omega):P:=h
theorem yF{P:Prop}(h:P:=by rw [hw4];exact (((zg w3 _).alloc zm _).alloc zk _).alloc zk _):P:=h
theorem yG{P:Prop}(h:P:=by have:=A.o.hS.2.1;rw [<-e,hcq] at this;omega):P:=h
theorem yH{P:Prop}(h:P:=by simp [results,Tryz.results191,go_sem,c0,c1]):P:=h
theorem yI{P:Prop}(h:P:=by rw [hOwn] at e;have:=(hgP P e.symm).1;omega):P:=h
theorem yJ{P:Prop}(h:P:=by cases e):P:=h
theorem yK{P:Prop}(h:P:=by simp [hp]):P:=h
theorem yL{P:Prop}(h:P:=by have:=tr2.length_eq;have:=List.length_filterMap_le movO A;unfold movsO at*;omega):P:=h
theorem yM{P:Prop}(h:P:=by rw [vZ];omega):P:=h
theorem yN{P:Prop}(h:P:=by rw [hOwn] at e;exact (hgP S e.symm).2 rfl):P:=h
theorem yO{P:Prop}(h:P:=by have:=HB.o;omega):P:=h
theorem yP{P:Prop}(h:P:=by rw [<-cellsOf_app,jH]):P:=h
theorem yQ{P:Prop}(h:P:=by unfold PlcAt at h;simp [World.cell?,h]):P:=h
theorem yR{P:Prop}(h:P:=by rw [jT,hxl]):P:=h
theorem yS{P:Prop}(h:P:=by simp [World.cell?,HA.o.2.2.2.2.1]):P:=h
theorem yT{P:Prop}(h:P:=by intro w' hSw;have q2:=hSw.1.cell ha4;clear hSw;go_simp;try with_reducible rfl):P:=h
theorem yU{P:Prop}(h:P:=by rw [hee,show mid+m - i - 1=mid+m - 1 - i by omega];exact ED.o.2 zi):P:=h
theorem yV{P:Prop}(h:P:=by have:=HD.o;rw [show k=s.size by omega,dropEnd] at this;exact this.symm):P:=h
theorem yW{P:Prop}(h:P:=by rw [h0] at hr;cases hr):P:=h
theorem yX{P:Prop}(h:P:=by simp only [encI,jn,ui,or_false] at hu;rw [hu];rfl):P:=h
theorem yY{P:Prop}(h:P:=by intro w' hSw;have r7:=hSw.2.1.c7;clear hSw;go_simp;try with_reducible rfl):P:=h
theorem yZ{P:Prop}(h:P:=by have:=h.free j hj;simp only [World.frozen?] at this |-;rw [e];exact this):P:=h
theorem qd{P:Prop}(h:P:=by have:=(h a).1 zm;simp at this):P:=h
theorem qe{P:Prop}(h:P:=by rw [jt];exact h.frozenAt j):P:=h
theorem qg{P:Prop}(h:P:=by have:=(h b).2 zm;simp at this):P:=h
theorem qh{P:Prop}(h:P:=by intro w' hSw;have r6:=hSw.2.c6;clear hSw;go_simp;try with_reducible rfl):P:=h
theorem qj{P:Prop}(h:P:=by rw [decide_eq_false zi];rfl):P:=h
theorem qk{P:Prop}(h:P:=by have:=H.o.2.2.1;omega):P:=h
theorem ql{P:Prop}(h:P:=by rw [hdl] at hj;omega):P:=h
theorem qp{P:Prop}(h:P:=by have:=B7.o.2;omega):P:=h
theorem qq{P:Prop}(h:P:=by have:=F6.size;have:=g1.size;omega):P:=h
theorem qr{P:Prop}(h:P:=by simpa using hown):P:=h
theorem qu{P:Prop}(h:P:=by simpa using hn):P:=h
theorem qv{P:Prop}(h:P:=by simp [World.cell?,hu1]):P:=h
theorem qw{P:Prop}(h:P:=by simp [World.cell?,hS1]):P:=h
theorem qx{P:Prop}(h:P:=by rw [TG.o p hp zi,TG.o q zi zi];exact hpq):P:=h
theorem qy{P:Prop}(h:P:=by rw [hdl,hmin];omega):P:=h
theorem qz{P:Prop}(h:P:=by have:=A.o.ne;have:=HP.o;omega):P:=h
theorem qA{P:Prop}(h:P:=by have:=hb.size;omega):P:=h
theorem qB{P:Prop}(h:P:=by rw [<-e]):P:=h
theorem qC{P:Prop}(h:P:=by rw [List.take_take];congr 1;omega):P:=h
theorem qD{P:Prop}(h:P:=by simpa using h1):P:=h
theorem qE{P:Prop}(h:P:=by rw [his,decide_eq_false hse];rfl):P:=h
theorem qF{P:Prop}(h:P:=by rw [e];rfl):P:=h
theorem qG{P:Prop}(h:P:=by rw [e] at hkd;rcases hkd with k | k<;>exact absurd k zo):P:=h
theorem qH{P:Prop}(h:P:=by rw [hd1];exact Rot.none d i m e zi zi zi):P:=h
theorem qI{P:Prop}(h:P:=by have:=HS.o;omega):P:=h
theorem qJ{P:Prop}(h:P:=by rw [jA,jA,htl,hv,hdl];omega):P:=h
theorem qK{P:Prop}(h:P:=by unfold moveE;rw [if_neg hsh,if_neg yb,if_pos hv]):P:=h
theorem qL{P:Prop}(h:P:=by simpa using hi):P:=h
theorem qM{P:Prop}(h:P:=by rw [Addr.add_lit,jt,hWc];exact hOv _ u (hvs j u hj)):P:=h
theorem qN{P:Prop}(h:P:=by rw [hown.1];omega):P:=h
theorem qO{P:Prop}(h:P:=by simp [hy]):P:=h
theorem qP{P:Prop}(h:P:=by simp [h0]):P:=h
theorem qQ{P:Prop}(h:P:=by rintro ⟨_,_,h⟩;exact h):P:=h
theorem qR{P:Prop}(h:P:=by rw [HLN.o];exact HNN.o):P:=h
theorem qS{P:Prop}(h:P:=by have:=Y.o.2.2.2.2.size;have:=A1.o.below.size;omega):P:=h
theorem qT{P:Prop}(h:P:=by rw [h2];exact jo _ _):P:=h
theorem qU{P:Prop}(h:P:=by simp [Lib.compareBytes,cmpT]):P:=h
theorem qV{P:Prop}(h:P:=by rw [tagged_at xs p (by rw [tagged_size] at hp;exact hp)]):P:=h
theorem qW{P:Prop}(h:P:=by have hb:=hbytes;simp only [jt] at hb;omega):P:=h
theorem qX{P:Prop}(h:P:=by rw [hf];exact k):P:=h
theorem qY{P:Prop}(h:P:=by have:=hp.1;simpa using this):P:=h
theorem qZ{P:Prop}(h:P:=by rw [<-hOwn];exact hgrow):P:=h
theorem xa{P:Prop}(h:P:=by simpa using h):P:=h
theorem xd{P:Prop}(h:P:=by rw [hzb,hik];exact growslice_fits hroom zi):P:=h
theorem xe{P:Prop}(h:P:=by rw [Nat.succ_mul]):P:=h
theorem xf{P:Prop}(h:P:=by rw [jG,vE];exact h1):P:=h
theorem xg{P:Prop}(h:P:=by rw [HLN.o];exact hown):P:=h
theorem xh{P:Prop}(h:P:=by simp [noSta] at h):P:=h
theorem xi{P:Prop}(h:P:=by first | exact cellsOf_ins ys _ _ | simp [cellsOf]):P:=h
theorem xj{P:Prop}(h:P:=by simp [World.cell?,hu1']):P:=h
theorem xk{P:Prop}(h:P:=by rw [hw1];exact (jo w.heap.size w).alloc ze _):P:=h
theorem xl{P:Prop}(h:P:=by rw [encX_len];exact hc):P:=h
theorem xm{P:Prop}(h:P:=by have:=HB.o.2.1;omega):P:=h
theorem xn{P:Prop}(h:P:=by simpa using hl):P:=h
theorem xo{P:Prop}(h:P:=by rw [<-HQN.o,<-HL.o];exact decide_eq_true hlv):P:=h
theorem xp{P:Prop}(h:P:=by rw [cellsOf_len];omega):P:=h
theorem xq{P:Prop}(h:P:=by rw [size_flatK];omega):P:=h
theorem xr{P:Prop}(h:P:=by rw [jG,vE];exact hl):P:=h
theorem xt{P:Prop}(h:P:=by rw [tagged_size];omega):P:=h
theorem xu{P:Prop}(h:P:=by have:=H.o.2.2.2.1;show S<U.heap.size;omega):P:=h
theorem xv{P:Prop}(h:P:=by unfold ltX at*;rw [lessB_is] at*;simp at*;omega):P:=h
theorem xw{P:Prop}(h:P:=by rw [Addr.add_lit,jt];exact hvs j u hj):P:=h
theorem xx{P:Prop}(h:P:=by have:=F6.size;have:=g1.size;have:=g2.size;omega):P:=h
theorem xz{P:Prop}(h:P:=by show B<=B+1+1;omega):P:=h
theorem xA{P:Prop}(h:P:=by rw [flat_get cellsP_len hk zi];rfl):P:=h
theorem xB{P:Prop}(h:P:=by rw [hmin,hv]):P:=h
theorem xC{P:Prop}(h:P:=by have:=h.2.2.1;omega):P:=h
theorem xD{P:Prop}(h:P:=by rw [hl,tagged_size]):P:=h
theorem xE{P:Prop}(h:P:=by have:=h.2.2.2;omega):P:=h
theorem xF{P:Prop}(h:P:=by rw [hv];simp):P:=h
theorem xG{P:Prop}(h:P:=by simpa using hd):P:=h
theorem xH{P:Prop}(h:P:=by have:=hu.1;rw [e,h.none0] at this;cases this):P:=h
theorem xI{P:Prop}(h:P:=by rw [HLN.o];exact e2):P:=h
theorem xJ{P:Prop}(h:P:=by rw [hp];rfl):P:=h
theorem xK{P:Prop}(h:P:=by show B<=B+1;omega):P:=h
theorem xL{P:Prop}(h:P:=by show (L.getD k zeroP).2.1=_;rw [<-hpe.o]):P:=h
theorem xM{P:Prop}(h:P:=by rw [hw1];exact zg w _):P:=h
theorem xN{P:Prop}(h:P:=by obtain ⟨_,_,_,_,_,_,_,_,k,_⟩:=h;exact k):P:=h
theorem xO{P:Prop}(h:P:=by have:=hb2.size;have:=H4.o.2.size;omega):P:=h
theorem xP{P:Prop}(h:P:=by rw [hw1];simp):P:=h
theorem xQ{P:Prop}(h:P:=by simp [results,Tryz.results216,go_sem]):P:=h
theorem xR{P:Prop}(h:P:=by unfold TreeCell at h;simp [World.cell?,h]):P:=h
theorem xS{P:Prop}(h:P:=by rw [h0,hW1];exact heap_alloc_new w.drew _):P:=h
theorem xT{P:Prop}(h:P:=by rw [<-hz,HX.o];unfold ltX;rw [hy1,hy2]):P:=h
theorem xU{P:Prop}(h:P:=by congr 1;omega):P:=h
theorem xV{P:Prop}(h:P:=by rw [jA,hal,hdl];omega):P:=h
theorem xW{P:Prop}(h:P:=by rw [h.size];omega):P:=h
theorem xX{P:Prop}(h:P:=by simp;have:=H3.o.1.below.size;omega):P:=h
theorem xY{P:Prop}(h:P:=by have:=hvB _ q;omega):P:=h
theorem xZ{P:Prop}(h:P:=by rw [vZ] at hj;exact hj):P:=h
theorem ja{P:Prop}(h:P:=by have:=H0.o.2.2.2.2.2.2.2 q;cases this):P:=h
theorem jb{P:Prop}(h:P:=by show U.cell? _=_;simp [World.cell?,hu1]):P:=h
theorem jc{P:Prop}(h:P:=by simp at e):P:=h
theorem jd{P:Prop}(h:P:=by show U.cell? _=_;simp [World.cell?,hu0]):P:=h
theorem je{P:Prop}(h:P:=by have:=HSw.o;omega):P:=h
theorem jf{P:Prop}(h:P:=by unfold World.ownsRow;rw [h0];exact hown):P:=h
theorem jg{P:Prop}(h:P:=by simp [Op.bytesLess]):P:=h
theorem za{α:Sort _}(x:α):∃U,U=x:=⟨x,rfl⟩
theorem zc{α:Sort _}(x:α):∃U,Aside (U=x):=⟨x,rfl⟩
theorem ze{n:Nat}:n≤n:=Nat.le_refl n
theorem zg(w:World)(o:Obj):Below w.heap.size w (w.alloc o):=(Below.refl _ w).alloc (Nat.le_refl _) o
theorem zh{a b c:World}(h:Below a.heap.size a b)(k:Below b.heap.size b c):Below a.heap.size a c:=h.trans (k.mono h.size)
theorem jh:type_of%@List.getElem?_eq_some_iff:=@List.getElem?_eq_some_iff
theorem ji:type_of%@List.getElem?_eq_getElem:=@List.getElem?_eq_getElem
theorem jj:type_of%@Nat.le_refl:=@Nat.le_refl
theorem jk:type_of%@Array.getElem?_eq_some_iff:=@Array.getElem?_eq_some_iff
theorem jl:type_of%@World.block_lt_of_cell?:=@World.block_lt_of_cell?
theorem jm:type_of%@List.mem_of_getElem?:=@List.mem_of_getElem?
theorem jn:type_of%@List.mem_cons:=@List.mem_cons
theorem jo:type_of%@Below.refl:=@Below.refl
theorem jp:type_of%@Below.heap_alloc:=@Below.heap_alloc
theorem jq:type_of%@List.setIfInBounds_toArray:=@List.setIfInBounds_toArray
theorem jr:type_of%@World.cell?_of_block:=@World.cell?_of_block
theorem js:type_of%@Nat.zero_le:=@Nat.zero_le
theorem jt:type_of%@Nat.zero_add:=@Nat.zero_add
theorem ju:type_of%@List.mem_append:=@List.mem_append
theorem jv:type_of%@List.mem_cons_of_mem:=@List.mem_cons_of_mem
theorem jw:type_of%@Nat.le_trans:=@Nat.le_trans
theorem jx:type_of%@List.set_cons_zero:=@List.set_cons_zero
theorem jy:type_of%@List.set_cons_succ:=@List.set_cons_succ
theorem jz:type_of%@List.length_take:=@List.length_take
theorem jA:type_of%@List.length_append:=@List.length_append
theorem jB:type_of%@List.pairwise_cons:=@List.pairwise_cons
theorem jC:type_of%@List.length_eq_zero_iff:=@List.length_eq_zero_iff
theorem jD:type_of%@List.mem_singleton:=@List.mem_singleton
theorem jE:type_of%@Nat.lt_of_lt_of_le:=@Nat.lt_of_lt_of_le
theorem jF:type_of%@List.pairwise_iff_getElem:=@List.pairwise_iff_getElem
theorem jG:type_of%@List.length_map:=@List.length_map
theorem jH:type_of%@List.take_append_drop:=@List.take_append_drop
theorem jI:type_of%@World.size_alloc:=@World.size_alloc
theorem jJ:type_of%@List.take_of_length_le:=@List.take_of_length_le
theorem jK:type_of%@List.length_cons:=@List.length_cons
theorem jL:type_of%@List.take_add_one:=@List.take_add_one
theorem jM:type_of%@List.mem_cons_self:=@List.mem_cons_self
theorem jN:type_of%@List.size_toArray:=@List.size_toArray
theorem jO:type_of%@List.mem_map:=@List.mem_map
theorem jP:type_of%@List.mem_append_left:=@List.mem_append_left
theorem jQ:type_of%@World.ownsRow_nil:=@World.ownsRow_nil
theorem jR:type_of%@List.append_assoc:=@List.append_assoc
theorem jS:type_of%@List.getElem?_map:=@List.getElem?_map
theorem jT:type_of%@List.length_drop:=@List.length_drop
theorem jU:type_of%@List.getElem_of_mem:=@List.getElem_of_mem
theorem jV:type_of%@ByteArray.toList_eq:=@ByteArray.toList_eq
theorem jW:type_of%@List.pairwise_append:=@List.pairwise_append
theorem jX:type_of%@List.take_length:=@List.take_length
theorem jY:type_of%@List.map_append:=@List.map_append
theorem jZ:type_of%@List.drop_eq_getElem_cons:=@List.drop_eq_getElem_cons
theorem vd:type_of%@Array.replicate_succ:=@Array.replicate_succ
theorem ve:type_of%@Array.replicate_zero:=@Array.replicate_zero
theorem vf:type_of%@List.append_nil:=@List.append_nil
theorem vg:type_of%@List.getElem?_drop:=@List.getElem?_drop
theorem vh:type_of%@Nat.lt_or_ge:=@Nat.lt_or_ge
theorem vi:type_of%@List.mem_append_right:=@List.mem_append_right
theorem vj:type_of%@List.append_toArray:=@List.append_toArray
theorem vk:type_of%@Nat.add_zero:=@Nat.add_zero
theorem vm:type_of%@Nat.mul_le_mul_right:=@Nat.mul_le_mul_right
theorem vn:type_of%@List.nil_append:=@List.nil_append
theorem vp:type_of%@List.cons_append:=@List.cons_append
theorem vq:type_of%@List.getD_eq_getElem?_getD:=@List.getD_eq_getElem?_getD
theorem vr:type_of%@List.push_toArray:=@List.push_toArray
theorem vu:type_of%@List.take_append_of_le_length:=@List.take_append_of_le_length
theorem vv:type_of%@List.getElem_toArray:=@List.getElem_toArray
theorem vw:type_of%@List.filter_append:=@List.filter_append
theorem vx:type_of%@List.mem_filter:=@List.mem_filter
theorem vy:type_of%@List.length_nil:=@List.length_nil
theorem vz:type_of%@List.nodup_append:=@List.nodup_append
theorem vA:type_of%@List.map_cons:=@List.map_cons
theorem vB:type_of%@List.getElem?_set_self:=@List.getElem?_set_self
theorem vD:type_of%@List.getElem?_append_left:=@List.getElem?_append_left
theorem vE:type_of%@Array.length_toList:=@Array.length_toList
theorem vF:type_of%@List.length_filter_le:=@List.length_filter_le
theorem vG:type_of%@Nat.add_assoc:=@Nat.add_assoc
theorem vH:type_of%@World.cell?_setCells_out:=@World.cell?_setCells_out
theorem vI:type_of%@List.getElem?_take:=@List.getElem?_take
theorem vJ:type_of%@List.getElem_mem:=@List.getElem_mem
theorem vK:type_of%@Bool.and_eq_true:=@Bool.and_eq_true
theorem vL:type_of%@World.putObj_heap_other:=@World.putObj_heap_other
theorem vM:type_of%@World.frozen?_setCells:=@World.frozen?_setCells
theorem vN:type_of%@List.mem_iff_getElem?:=@List.mem_iff_getElem?
theorem vO:type_of%@List.mem_filterMap:=@List.mem_filterMap
theorem vQ:type_of%@List.mem_iff_getElem:=@List.mem_iff_getElem
theorem vR:type_of%@List.drop_of_length_le:=@List.drop_of_length_le
theorem vT:type_of%@List.getElem_cons_succ:=@List.getElem_cons_succ
theorem vV:type_of%@List.getElem_cons_zero:=@List.getElem_cons_zero
theorem vW:type_of%@List.perm_append_comm:=@List.perm_append_comm
theorem vX:type_of%@List.length_singleton:=@List.length_singleton
theorem vY:type_of%@List.extract_eq_take_drop:=@List.extract_eq_take_drop
theorem vZ:type_of%@List.length_set:=@List.length_set
theorem ub:type_of%@List.pairwise_map:=@List.pairwise_map
theorem uc:type_of%@Nat.lt_trichotomy:=@Nat.lt_trichotomy
theorem ud:type_of%@List.getElem_take:=@List.getElem_take
theorem ue:type_of%@List.lt_irrefl:=@List.lt_irrefl
theorem uf:type_of%@List.mem_of_mem_take:=@List.mem_of_mem_take
theorem ug:type_of%@List.mem_of_mem_drop:=@List.mem_of_mem_drop
theorem uh:type_of%@List.getElem?_set_ne:=@List.getElem?_set_ne
theorem ui:type_of%@List.not_mem_nil:=@List.not_mem_nil
theorem uj:type_of%@Array.getElem?_eq_getElem:=@Array.getElem?_eq_getElem
theorem uk:type_of%@Bool.eq_iff_iff:=@Bool.eq_iff_iff
theorem ul:type_of%@Nat.eq_zero_or_pos:=@Nat.eq_zero_or_pos
theorem um:type_of%@Nat.add_sub_cancel:=@Nat.add_sub_cancel
theorem un:type_of%@List.any_eq_true:=@List.any_eq_true
theorem uq:type_of%@World.cell?_alloc_lt:=@World.cell?_alloc_lt
theorem ur:type_of%@Nat.add_mul:=@Nat.add_mul
theorem ut:type_of%@Option.map_some:=@Option.map_some
theorem uu:type_of%@List.range_succ:=@List.range_succ
theorem uv:type_of%@Nat.not_lt_zero:=@Nat.not_lt_zero
theorem uw:type_of%@List.map_congr_left:=@List.map_congr_left
theorem ux:type_of%@List.filter_eq_self:=@List.filter_eq_self
theorem uy:type_of%@Int.le_of_lt:=@Int.le_of_lt
theorem uz:type_of%@List.getElem?_append_right:=@List.getElem?_append_right
theorem uA:type_of%@List.drop_zero:=@List.drop_zero
theorem uB:type_of%@List.perm_middle:=@List.perm_middle
theorem uC:type_of%@Option.getD_some:=@Option.getD_some
theorem uD:type_of%@List.append_inj':=@List.append_inj'
theorem uE:type_of%@World.frozen?_of_block:=@World.frozen?_of_block
theorem uF:type_of%@World.cell?_alloc_past:=@World.cell?_alloc_past
theorem uG:type_of%@List.drop_eq_nil_of_le:=@List.drop_eq_nil_of_le
theorem uH:type_of%@Option.map_eq_some_iff:=@Option.map_eq_some_iff
theorem uI:type_of%@Bool.or_eq_true:=@Bool.or_eq_true
theorem uJ:type_of%@List.getElem?_eq_none:=@List.getElem?_eq_none
theorem uK:type_of%@ByteArray.size_append:=@ByteArray.size_append
