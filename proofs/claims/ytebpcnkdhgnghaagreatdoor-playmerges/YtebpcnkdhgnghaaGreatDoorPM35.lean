import Derived.Test.YtebpcnkdhgnghaaGreatDoorPM26
import Derived.Test.YtebpcnkdhgnghaaGreatDoorPM29
import Derived.Test.YtebpcnkdhgnghaaGreatDoorPM31
set_option linter.unusedSimpArgs false
set_option linter.unusedVariables false
set_option maxRecDepth 100000
set_option maxHeartbeats 64000000
namespace Go.Proofs.YtebpcnkdhgnghaaGreatDoor
open Go.Proofs.Tryz
variable {by_:Int} {S:List OpX} {cap m:Nat} {ao:Option Addr}
section
open Go Go.RowKit Go.Lib Go.Sort
theorem FL (M:List Ltr):cu (M.map bare)=cu M:=by unfold cu;rw [FM]
theorem Hp (M:List Ltr):(cu M).length<=M.length:=by unfold cu bs;rw [ul];exact Zv _ _
theorem FW (w:World) (nd:Int) (h:MRp w m by_ ao cap S) (hsh:Shp ao cap) (hW:WellK S) (hnd:S.Nodup) (hn:S.length<=400):
  Calls prog 40 #[.pointer (some ⟨m,0,none⟩),.int .i64 nd] w fun e w'=>∃s,e= .returned (.string s)/\Aside (wm S nd s/\s.size<=400/\Below w.heap.size w w'):=by
 have hkn:=mT w nd h hW.ok zj
 obtain ⟨zk,hzk⟩:=ze (eW S nd)
 rw [<-hzk.o] at hkn
 have H0:Aside (MRp w m by_ ao cap S/\Shp ao cap/\WellK S/\S.Nodup):=⟨h,hsh,hW,hnd⟩
 clear h hsh hW hnd
 go_enter func40,ntmps40
 go_wp2_with fail
 refine hkn.mono ?_
 clear hkn
 rintro e w1 ⟨rfl,H1⟩
 cases zk with
 | false=>
  have HT:Aside (wm S nd ⟨#[]⟩):=.inl ⟨fun k=>(by have:=knownB_iff.2 k;rw [<-hzk.o] at this;cases this),rfl⟩
  go_wp2
  go_ret
  exact ⟨⟨#[]⟩,rfl,HT.o,zr,H1.o⟩
 | true=>
  have hk:Aside (KnownN S nd):=knownB_iff.1 hzk.o.symm
  obtain ⟨c0,c1,cf⟩:=(H0.o.1.later H1.o).c
  have hln:=CW w1 ao cap S nd (H0.o.2.1.at (H0.o.1.later H1.o).ops) H0.o.2.2.1 H0.o.2.2.2 hn
  go_wp2_with fail
  refine hln.mono ?_
  clear hln c0 c1 cf
  rintro e w2 ⟨p,v,M,base,rfl,H2⟩
  have htx:=Ds w2 base p v M H2.o.1 (by have:=H2.o.2.2.1;omega)
  go_wp2_with fail
  refine htx.mono ?_
  clear htx
  rintro e w3 ⟨rfl,hb3⟩
  have HF:Aside (wm S nd ⟨(cu M).toArray⟩/\(⟨(cu M).toArray⟩:ByteArray).size<=400/\Below w.heap.size w w3):=by
   refine ⟨.inr ⟨hk.o,_,H2.o.2.1,?_⟩,?_,H1.o.trans ((zi H2.o.2.2.2 hb3).mono H1.o.size)⟩
   ·rw [FL]
   show (cu M).toArray.size<=400
   have:=Hp M
   have:=H2.o.2.2.1
   simp
   omega
  clear hb3
  go_wp2
  go_ret
  exact ⟨_,rfl,HF.o⟩
structure NE (w:World) (p i:Nat) (S:List OpX) (v:Value) (L:List (bU×aG)) (wr:World):Prop where
 mks:MksAt (p+1) wr p v L
 lists:Lists (du (S.take i)) L
 len:L.length<=i
 below:Below w.heap.size w wr
 size:p+1<=wr.heap.size
theorem nH {i:Nat} {x:OpX} (hx:S[i]? =some x):du (S.take (i+1))=ku (du (S.take i)) x:=by
 have hi:=(vA.1 hx).1
 rw [uF hi,(vA.1 hx).2]
 exact kW _ _
theorem CX (w:World) (h:MRp w m by_ ao cap S) (hok:∀x∈S,ai x=0) (hn:S.length<=400):
  Calls prog 41 #[.pointer (some ⟨m,0,none⟩)] w fun e w'=>∃p v L base,e= .returned (.pointer (some ⟨p,0,none⟩))/\Aside (MksAt base w' p v L/\Lists (du S) L/\L.length<=S.length/\Below w.heap.size w w'):=by
 obtain ⟨p,hp⟩:=ze w.heap.size
 obtain ⟨U,hU⟩:=ze (w.alloc (.cells #[.slice none 0 0] 87))
 have H0:Aside (MRp w m by_ ao cap S/\∀x∈S,ai x=0):=⟨h,hok⟩
 have HL0:Aside (NE w p 0 S (.slice none 0 0) [] U):=by
  rw [hU.o,hp.o]
  exact ⟨⟨heap_alloc_new w _,uf _ _ _ _,Nat.lt_succ_self _⟩,by simpa [du,fI,lu] using Cj,vB _,zh w _,zt⟩
 clear h hok
 go_enter func41,ntmps41
 go_upto_region 2 with fail
 rw [<-hU.o,<-hp.o]
 go_wp2
 go_loopg [4] S.length (fun kx s4 wr=>∃(i:Nat) (v:Value) (L:List (bU×aG)),s4= .int .i64 (i:Int)/\i<=S.length/\S.length - i<=kx/\Aside (NE w p i S v L wr))
 case atStart=>exact ⟨0,_,[],rfl,vM _,vB _,HL0.o⟩
 case round=>
  obtain ⟨i,v,L,rfl,hi,hix,A⟩:=hrel
  obtain ⟨u,hu⟩:=zc wr
  subst hu
  obtain ⟨c0,c1,cf⟩:=(H0.o.1.later A.o.below).c
  by_cases hlt:i<S.length
  ·have d1:decide ((i:Int)<(S.length:Int))=true:=by simp;omega
   have d1n:decide (i<S.length)=true:=zq
   obtain ⟨x,hx⟩:∃x,Aside (S[i]? =some x):=⟨S[i],vF hlt⟩
   have hex:=H0.o.2 x (vH hx.o)
   obtain ⟨b1,o1,e1,E1⟩:=(H0.o.1.later A.o.below).ops.one hx.o
   obtain ⟨xt,xb,xn,xk,xd,xo,xs,xv⟩:=x
   have hst:=ar hex
   dsimp only at E1
   subst e1
   have wi:((i:Int)).toNat=i:=zj
   have pi:(0:Int)<=(i:Int):=zj
   have bi:(i:Int)<(S.length:Int):=zj
   obtain ⟨q0,q1,q2,q3,q4,q5,q6,q7⟩:=E1
   by_cases hk:xk=115
   ·have dk:((xk:Int)==115)=true:=by simp;omega
    have dkn:(xk==115)=true:=zq
    have hsn:xs.size<=1000000:=by have h12:xs.data.toList.length<=12:=hst.2.2.2.2.2.2.2.2.2.2.2.2.1;rw [uv] at h12;show xs.data.size<=_;omega
    have hsv:xv.size<=1000000:=by have h12:xv.data.toList.length<=12:=hst.2.2.2.2.2.2.2.2.2.2.2.2.2;rw [uv] at h12;show xv.data.size<=_;omega
    have hms:=IE u (p+1) p v L xt xb xn xk xd xo xs xv A.o.mks A.o.size qp hsn hsv
    clear hst hex hk
    go_wp2_with fail
    refine hms.mono ?_
    clear hms q0 q1 q2 q3 q4 q5 q6 q7 c0 c1 cf
    rintro e w2 ⟨rfl,v',hm2,hk2,hg2⟩
    have HN:Aside (NE w p (i+1) S v' (kq L (xt,xb,xn,xk,xd,xo,xs,xv)) w2):=by
     refine ⟨hm2,by rw [nH hx.o];exact (A.o.lists.set _).1,by have:=Dx L (xt,xb,xn,xk,xd,xo,xs,xv);have:=A.o.len;omega,A.o.below.trans (hk2.below A.o.below.size (fun k e=> ?_)),by have:=hk2.size;have:=A.o.size;omega⟩
     rcases e with e | e
     ·rw [e,hp.o];exact vB _
     have:=(A.o.mks.row.lt k e.symm).1
     have:=hp.o
     omega
    clear hm2 hk2 hg2
    go_wp2
    go_roundg (S.length - (i+1))
    case measure=>omega
    case rel=>exact ⟨i+1,_,_,zw,zj,vB _,HN.o⟩
   have dk:((xk:Int)==115)=false:=zq
   have dkn:(xk==115)=false:=zq
   have HN:Aside (NE w p (i+1) S v L u):=⟨A.o.mks,by rw [nH hx.o];unfold ku;rw [if_neg (fun q=>hk q.2)];exact A.o.lists,qp,A.o.below,A.o.size⟩
   clear hst hex hk
   go_wp2
   go_roundg (S.length - (i+1))
   case measure=>omega
   case rel=>exact ⟨i+1,_,_,zw,zj,vB _,HN.o⟩
  have d1:decide ((i:Int)<(S.length:Int))=false:=zq
  have d1n:decide (i<S.length)=false:=zq
  have HF:Aside (MksAt (p+1) u p v L/\Lists (du S) L/\L.length<=S.length/\Below w.heap.size w u):=by
   have h1:=A.o.lists
   rw [vT zj] at h1
   exact ⟨A.o.mks,h1,qp,A.o.below⟩
  clear A
  go_wp2
  go_ret
  exact ⟨p,v,L,_,rfl,HF.o⟩
