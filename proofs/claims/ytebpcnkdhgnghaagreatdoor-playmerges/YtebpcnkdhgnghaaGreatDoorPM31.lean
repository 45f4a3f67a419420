import Derived.Test.YtebpcnkdhgnghaaGreatDoorPM25
set_option linter.unusedSimpArgs false
set_option linter.unusedVariables false
set_option maxRecDepth 100000
set_option maxHeartbeats 64000000
namespace Go.Proofs.YtebpcnkdhgnghaaGreatDoor
variable {R S l:List OpX} {i:Nat} {x:OpX} {w':World}
section
open Go
theorem sP {y:OpX} (hx:ai x=0) (hy:ai y=0) (h:CLt (stO x) (stO y)):idO x<idO y:=by
 rcases Int.lt_trichotomy (idO x) (idO y) with q | q | q
 ·exact q
 ·have:=Dm hx hy q
  rw [this] at h
  exact absurd h cZ
 exact absurd (fi h (MG hy hx q)) cZ
theorem nD {x:Int} {L:List Ltr} (h:∀l∈L,l.1<x):cl x L=0:=
 ke (vM _) (fun i l hi=>absurd hi (Nat.not_lt_zero _)) (fun l hl=>by have:=h l (vH hl);omega)
def LofAt (R:List OpX) (nd:Int) (i:Nat) (M:List Ltr):Prop:=LineIs (R.take i) nd (M.map bare)
theorem lp (hx:R[i]? =some x):(x::R.take i).Perm (R.take (i+1)):=by
 have hi:=(vA.1 hx).1
 rw [uF hi,(vA.1 hx).2]
 exact (List.perm_append_singleton x _).symm
theorem LofAt.start (R:List OpX) (nd:Int):LofAt R nd 0 []:=LineIs.new (fun x hx=>zW)
theorem LofAt.skip {R:List OpX} {nd:Int} {i:Nat} {M:List Ltr} (h:LofAt R nd i M) {x:OpX} (hx:R[i]? =some x) (hn:¬(aM x=nd/\(kdO x=105\/kdO x=100))):LofAt R nd (i+1) M:=
 (LineIs.skip h hn).perm (lp hx)
theorem LofAt.ins {R:List OpX} {nd:Int} {i:Nat} {M:List Ltr} (h:LofAt R nd i M) {x:OpX} (hs:StepOk (R.take i) x) (hlt:∀y∈R.take i,idO y<idO x) (hx:R[i]? =some x) (hk:kdO x=105) (hn:aM x=nd):
  ∃k:Nat,k<=M.length/\(aN x=0->k=0)/\(aN x≠0->iC (aN x) M=(k:Int) - 1)/\LofAt R nd (i+1) (M.take k++(idO x,Ca x,false)::M.drop k):=by
 have hids:∀l∈M,l.1<idO x:=fun l hl=>by
  have hm:LetterN (R.take i) nd l.1:=(LineIs.mem h).1 (by rw [pN];exact uh.2 ⟨l,hl,rfl⟩)
  obtain ⟨y,hy,_,_,e⟩:=hm
  have:=hlt y hy
  omega
 have ho:aN x=0\/aN x∈(M.map bare).map (·.1):=by
  have he:=dK hs.ok
  by_cases q:aN x=0
  ·exact .inl q
  right
  have hl:=hs.letter (.inl ⟨hk,by have:=he.2.2.2.1;omega⟩)
  rw [hn] at hl
  exact (LineIs.mem h).2 hl
 have hnew:idO x∉(M.map bare).map (·.1):=fun q=>by
  rw [pN] at q
  obtain ⟨l,hl,e⟩:=uh.1 q
  have:=hids l hl
  omega
 have hline:=LineIs.ins h hk hn hnew (by have:=Dk hs.ok;omega) ho (hs.ungone nd)
 have hoM:aN x=0\/aN x∈M.map (·.1):=by rw [pN] at ho;exact ho
 rw [Im _ _ (show bare (idO x,Ca x,false)=(idO x,Ca x,false) from rfl)] at hline
 obtain ⟨hkl,hput⟩:=Au (x:=(idO x,Ca x,false)) hoM
 rw [hput] at hline
 refine ⟨ew (aN x) (idO x) M,hkl,fun q=> ?_,fun q=> ?_,LineIs.perm hline (lp hx)⟩
 ·unfold ew
  rw [if_pos q]
  exact nD hids
 unfold ew
 rw [if_neg q]
 obtain ⟨j,e1,e2,e3⟩:=mu (hoM.resolve_left q)
 rw [e1,e2]
 dsimp only
 rw [nD (fun l hl=>hids l (Zh hl))]
 omega
theorem LofAt.del {R:List OpX} {nd:Int} {i:Nat} {M:List Ltr} (h:LofAt R nd i M) {x:OpX} (hs:StepOk (R.take i) x) (hx:R[i]? =some x) (hk:kdO x=100) (hn:aM x=nd):LofAt R nd (i+1) (sW (aN x) M):=by
 have hl:=hs.letter (.inr hk)
 rw [hn] at hl
 obtain ⟨j,hj⟩:=eT ((LineIs.mem h).2 hl)
 have:=LineIs.perm (LineIs.del h hk hn hj) (lp hx)
 unfold LofAt
 rw [CZ]
 unfold Lv
 rw [hj]
 exact this
theorem De {w:World} {C:Nat} {cs:Array Value} {ty:TypeId} {mk:Nat×Nat} (hc:w.heap[C]? =some (.cells cs ty mk)) (hs:cs.size<=7) (hk:Keeps (fun k=>k=C) w w') {ra:Option Addr} (hr:OpsIn w ra R):OpsIn w' ra R:=by
 rcases hr with e | ⟨g,o,e,hcell⟩
 ·exact .inl e
 by_cases hR:R= []
 ·exact .inl hR
 refine .inr ⟨g,o,e,fun j u hj=> ?_⟩
 have hne:g≠C:=by
  intro e2
  subst e2
  cases R with
  | nil=>exact hR rfl
  | cons x t=>
   have h7:=hcell 7 _ (show (cellsOf (x::t))[7]? =some _ from rfl)
   simp only [World.cell?,hc] at h7
   have hlt:¬(o+7<cs.size):=zj
   simp [hlt] at h7
   try omega
 have hlt:g<w.heap.size:=vK w ⟨g,o+j,none⟩ (hcell j u hj)
 exact (hk.cell (a:=⟨g,o+j,none⟩) hlt (fun e=>hne e)).trans (hcell j u hj)
end
section
open Go Go.RowKit Go.Lib Go.Sort
structure LofSt (R:List OpX) (nd:Int) (w1:World) (p i:Nat) (v:Value) (M:List Ltr) (wr:World):Prop where
 ref:RefAt w1.heap.size wr p v M
 lof:LofAt R nd i M
 len:M.length<=i
 keep:Keeps (fun k=>k=p) w1 wr
theorem LofSt.later {R:List OpX} {nd:Int} {w1:World} {p i:Nat} {v:Value} {M:List Ltr} {wr w':World} (h:LofSt R nd w1 p i v M wr) (hb:Below wr.heap.size wr w'):LofSt R nd w1 p i v M w':=
 ⟨h.ref.later hb,h.lof,h.len,h.keep.then (aX hb) (fun k hk q=>by have:=h.keep.size;omega)⟩
theorem Lk {v:ByteArray} (h:v.data.toList.length=1):∃hv:0<v.size,(v.data.toList.headD 0).toNat=(v[0]).toNat:=by
 have h2:v.data.size=1:=yR
 have hv:0<v.size:=by show 0<v.data.size;omega
 refine ⟨hv,?_⟩
 have:v.data.toList= [v[0]]:=by
  have e:v.data.toList[0]? =some v[0]:=by
   rw [Array.getElem?_toList,Zy zj]
   rfl
  match hh:v.data.toList,h with
  | [a],_=>rw [hh] at e;simp at e;rw [e]
 rw [this]
 rfl
theorem Kd (h:ai x=0) (hk:kdO x=105):x.2.2.2.2.2.2.2.data.toList.length=1:=by
 unfold ai opE at h
 split at h
 ·unfold fO at h
  rw [if_neg (by show ¬(kdO x=109);omega),if_pos hk] at h
  unfold fE at h
  split at h
  ·cases h
  split at h
  ·cases h
  split at h
  ·cases h
  rename_i q
  by_cases e:x.2.2.2.2.2.2.2.data.toList.length=1
  ·exact e
  exact absurd (.inl e) q
 cases h
theorem CW (w:World) (ao:Option Addr) (cap:Nat) (S:List OpX) (nd:Int) (h:OpsAt w (.slice ao S.length cap) S) (hW:WellK S) (hnd:S.Nodup) (hn:S.length<=400):
  Calls Tryz.prog 79 #[.slice ao S.length cap,.int .i64 nd] w fun e w'=>∃p v M base,e= .returned (.pointer (some ⟨p,0,none⟩))/\Aside (RefAt base w' p v M/\LineIs S nd (M.map bare)/\M.length<=400/\Below w.heap.size w w'):=by
 obtain ⟨p,hp⟩:=ze w.heap.size
 obtain ⟨U,hU⟩:=ze (w.alloc (.cells #[.slice none 0 0] 253))
 have hbU:Below w.heap.size w U:=yq
 have hcU:U.heap[p]? =some (.cells #[.slice none 0 0] 253 (0,0)):=by rw [hU.o,hp.o];exact heap_alloc_new w _
 have hS:=kN U (.slice ao S.length cap) S (h.later hbU) zj
 have H0:Aside (WellK S/\S.Nodup/\Below w.heap.size w U/\U.heap[p]? =some (.cells #[.slice none 0 0] 253 (0,0))):=⟨hW,hnd,hbU,hcU⟩
 clear h hW hnd hbU hcU
 go_enter Tryz.func79,Tryz.ntmps79
 go_upto_region 2 with fail
 rw [<-hU.o,<-hp.o]
 go_wp2_with fail
 refine hS.mono ?_
 clear hS
 rintro e w1 ⟨v1,R,rfl,hOps,hSort,hb1⟩
 obtain ⟨ra,rc,rfl,hIn⟩:=kh hOps
 have hRS:=fo hSort
 have HR:Aside (WellK R/\R.Pairwise (fun a b=>CLt (stO a) (stO b))/\R.Perm S/\Below w.heap.size w w1/\w1.heap[p]? =some (.cells #[.slice none 0 0] 253 (0,0))/\OpsIn w1 ra R):=by
  have hnd':R.Nodup:=hRS.1.nodup_iff.2 H0.o.2.1
  have hne:R.Pairwise (fun a b=>stO a≠stO b):=by
   rw [ub]
   intro i j hi hj hij e
   have:=H0.o.1.stamp (hRS.1.mem_iff.1 (uS hi)) (hRS.1.mem_iff.1 (uS hj)) e
   exact kk3
  refine ⟨H0.o.1.congr (fun x=>hRS.1.mem_iff.symm),lS hRS.2 hne,hRS.1,zi H0.o.2.2.1 hb1,?_,hIn⟩
  rw [hb1.block p (vD.1 H0.o.2.2.2).1]
  exact H0.o.2.2.2
 have hRl:R.length<=400:=by rw [hRS.1.length_eq];exact hn
 have HL0:Aside (LofSt R nd w1 p 0 (.slice none 0 0) [] w1):=⟨⟨HR.o.2.2.2.2.1,uf _ _ _ _,(vD.1 HR.o.2.2.2.2.1).1,fun l hl=>xW⟩,LofAt.start R nd,vB _,Keeps.refl _ _⟩
 clear hOps hIn hSort hb1 hRS
 go_wp2
 go_loopg [7] R.length (fun kx s7 wr=>∃(i:Nat) (v:Value) (M:List Ltr),s7= .int .i64 (i:Int)/\i<=R.length/\R.length - i<=kx/\Aside (LofSt R nd w1 p i v M wr))
 case atStart=>exact ⟨0,_,[],rfl,vM _,vB _,HL0.o⟩
 case round=>
  obtain ⟨i,v,M,rfl,hi,hix,A⟩:=hrel
  obtain ⟨u,hu⟩:=zc wr
  subst hu
  by_cases hlt:i<R.length
  ·have d1:decide ((i:Int)<(R.length:Int))=true:=by simp;omega
   have d1n:decide (i<R.length)=true:=zq
   obtain ⟨x,hx⟩:∃x,Aside (R[i]? =some x):=⟨R[i],vF hlt⟩
   have HST:Aside (StepOk (R.take i) x/\∀y∈R.take i,idO y<idO x):=by
    have h1:=mF (S:=R) (K:=[]) (ys:=R) HR.o.1 (fun y=>zt) (fun y hy=>by simp at hy) HR.o.2.1 (fun y _ q=>by simp at q) hx.o
    rw [uR] at h1
    refine ⟨h1,fun y hy=> ?_⟩
    obtain ⟨j,hj,rfl⟩:=uJ hy
    have hj':j<i/\j<R.length:=by rw [vW] at hj;omega
    have hc:=ub.1 HR.o.2.1 j i hj'.2 hlt hj'.1
    rw [(vA.1 hx.o).2] at hc
    exact sP (h1.all _ hy).1 h1.ok (by rw [ZB];exact hc)
   have hin:OpsIn u ra R:=De HR.o.2.2.2.2.1 zt A.o.keep HR.o.2.2.2.2.2
   obtain ⟨b1,o1,e1,E1⟩:=hin.one hx.o
   obtain ⟨xt,xb,xn,xk,xd,xo,xs,xv⟩:=x
   dsimp only at E1
   subst e1
   have wi:((i:Int)).toNat=i:=zj
   have pi:(0:Int)<=(i:Int):=zj
   have bi:(i:Int)<(R.length:Int):=zj
   obtain ⟨q0,q1,q2,q3,q4,q5,q6,q7⟩:=E1
   obtain ⟨V,hV⟩:=ze (u.alloc (.cells #[.int .i64 xt,.int .i64 xb,.int .i64 xn,.int .u8 (xk:Int),.int .i64 xd,.int .i64 xo,.string xs,.string xv] 61))
   obtain ⟨P,hP⟩:=ze u.heap.size
   have HV:Aside (OpBlk V P (xt,xb,xn,xk,xd,xo,xs,xv)/\LofSt R nd w1 p i v M V/\p<P/\w1.heap.size<=P/\∀g,v.ownBlock=some g->g<P):=by
    rw [hV.o,hP.o]
    have hb:Below u.heap.size u (u.alloc (.cells #[.int .i64 xt,.int .i64 xb,.int .i64 xn,.int .u8 (xk:Int),.int .i64 xd,.int .i64 xo,.string xs,.string xv] 61)):=zh u _
    exact ⟨OpBlk.new u (xt,xb,xn,xk,xd,xo,xs,xv),A.o.later hb,A.o.ref.lt,A.o.keep.size,fun g hg=>(A.o.ref.row.lt g hg).2⟩
   clear A hin
   go_upto_region 7 with fail
   rw [<-hV.o,<-hP.o]
   clear q0 q1 q2 q3 q4 q5 q6 q7 hV hP
   obtain ⟨y0,y1,y2,y3,y4,y5,y6,y7,yf⟩:=HV.o.1.cells
   dsimp only at y0 y1 y2 y3 y4 y5 y6 y7
   by_cases hd:xd=nd
   ·have dd:(xd==nd)=true:=by simp [hd]
    have dd2:(xd !=nd)=false:=ji
    have HND:Aside (xd=nd):=hd
    clear hd
    by_cases hk5:xk=105
    ·have dk5:((xk:Int)==105)=true:=by simp;omega
     have dkn5:(xk==105)=true:=zq
     have dk0:((xk:Int)==100)=false:=zq
     have dkn0:(xk==100)=false:=zq
     have hb1':=Kd HST.o.1.ok hk5
     obtain ⟨hv0,hch⟩:=Lk hb1'
     have HCH:Aside (Ca (xt,xb,xn,xk,xd,xo,xs,xv)=(xv[0]).toNat):=hch
     have hst:=ar HST.o.1.ok
     have her:=dK HST.o.1.ok
     have ho0:0<=xo:=her.2.2.2.1
     obtain ⟨k,hkM,hk0,hk1,hkL⟩:=HV.o.2.1.lof.ins HST.o.1 HST.o.2 hx.o hk5 HND.o
     have HK:Aside (LofAt R nd (i+1) (M.take k++(idO (xt,xb,xn,xk,xd,xo,xs,xv),Ca (xt,xb,xn,xk,xd,xo,xs,xv),false)::M.drop k)):=hkL
     have hMl:M.length<=400:=qC
     have hid:=fC xt xb V.drew hst.1 hst.2.1 hst.2.2.1 hst.2.2.2.1
     clear hb1' hch hst her hkL hk5
     have HAT:Aside (∀W,Below V.heap.size V W->(fun w':World=>w'.cell? ⟨P,0,none⟩=some (.int .i64 xt)/\w'.cell? ⟨P,1,none⟩=some (.int .i64 xb)/\w'.cell? ⟨P,7,none⟩=some (.string xv)) W):=by
      intro W hW
      have hc:=HV.o.1.cells
      exact ⟨aT hW hc.1,aT hW hc.2.1,aT hW hc.2.2.2.2.2.2.2.1⟩
     by_cases hxo:0<xo
     ·have dxo:decide (0<xo)=true:=decide_eq_true hxo
      have hf:=lm V w1.heap.size p v M xo HV.o.2.1.ref zj
      rw [hk1 (by show xo≠0;omega)] at hf
      have hkw:wrap64 ((k:Int) - 1+1)=(k:Int):=vi
      have hkw1:(k:Int) - 1+1=(k:Int):=zj
      clear hxo hk0 hk1 ho0
      go_wp2_with fail
      refine hf.mono ?_
      clear hf
      rintro e w2 ⟨rfl,hw2⟩
      subst hw2
      go_upto_region 12 with fail
      clear y0 y1 y2 y3 y4 y5 y6 y7 yf
      refine aL (S:=(fun w'=>w'.cell? ⟨P,0,none⟩=some (.int .i64 xt)/\w'.cell? ⟨P,1,none⟩=some (.int .i64 xb)/\w'.cell? ⟨P,7,none⟩=some (.string xv))) zo (HAT.o w2.drew ((vG _ w2).drew)) (fun hHeld=> ?_)
      refine tk 0 hHeld ?_
      refine tk 1 hHeld ?_
      refine tk 2 hHeld ?_
      refine tk 3 hHeld ?_ (hy:=Or.inl ⟨zv,zM⟩)
      refine tk 5 hHeld ?_
      refine tk 6 hHeld ?_ (hy:=Or.inl ⟨zv,zM⟩)
      refine wpAnyH_take (i:=7) (v:=.int .u8 ((xv[0]).toNat:Int)) rfl zo zo zo (fun _ _ _ h=>h) (Or.inl ⟨zv,?hya7⟩) hHeld ?resta7
      case hya7=>(intro w' hSw;clear hSw;have:=hv0;go_simp;try with_reducible rfl)
      refine qn ?_
      refine aW (i:=4) zo rfl (fun K hK=> ?_)
      go_simp
      refine hid.mono ?_
      clear hid
      rintro e w3 ⟨rfl,hb3⟩
      have B3:Below w2.heap.size w2 w3:=((vG _ w2).drew).trans hb3
      refine hK _ _ (HAT.o w3 B3) ?_
      clear hK K
      have HB3:Aside (Below w2.heap.size w2 w3):=B3
      clear B3 hb3
      refine qn ?_
      refine tk 8 (HAT.o w3 HB3.o) ?_
      have hly:=wj w3 w1.heap.size p k v M (4*xt+xb) (xv[0]).toNat false (HV.o.2.1.later HB3.o).ref je zj zj (UInt8.toNat_lt _)
      refine aW (i:=9) zo rfl (fun K hK=> ?_)
      go_simp
      refine hly.mono ?_
      clear hly
      rintro e w4 ⟨⟨ue,rfl⟩,v4,hr4,hk4,hg4⟩
      have HN:Aside (LofSt R nd w1 p (i+1) v4 (M.take k++(4*xt+xb,(xv[0]).toNat,false)::M.drop k) w4):=by
       refine ⟨hr4,?_,?_,((HV.o.2.1.later HB3.o).keep.then hk4 (fun g _ e=>e))⟩
       ·exact kh4
       exact kj9
      refine hK _ _ ?_ ?_
      ·exact kd6
      have y3:w4.cell? ⟨P,3,none⟩=some (.int .u8 (xk:Int)):=by
       exact kf8
      clear hK K hr4 hk4 hg4
      refine qn ?_
      refine wpAnyH_done zo ?_ _
      refine qn ?_
      clear HAT HV HK HCH
      go_wp2
      go_roundg (R.length - (i+1))
      case measure=>omega
      case rel=>exact ⟨i+1,_,_,zw,zj,vB _,HN.o⟩
     have dxo:decide (0<xo)=false:=decide_eq_false hxo
     have hk0':k=0:=hk0 (by show xo=0;omega)
     subst hk0'
     clear hxo hk0 hk1 ho0
     go_upto_region 12 with fail
     clear y0 y1 y2 y3 y4 y5 y6 y7 yf
     refine aL (S:=(fun w'=>w'.cell? ⟨P,0,none⟩=some (.int .i64 xt)/\w'.cell? ⟨P,1,none⟩=some (.int .i64 xb)/\w'.cell? ⟨P,7,none⟩=some (.string xv))) zo (HAT.o V.drew ((vG _ V).drew)) (fun hHeld=> ?_)
     refine tk 0 hHeld ?_
     refine tk 1 hHeld ?_
     refine tk 2 hHeld ?_
     refine tk 3 hHeld ?_ (hy:=Or.inl ⟨zv,zM⟩)
     refine tk 5 hHeld ?_
     refine tk 6 hHeld ?_ (hy:=Or.inl ⟨zv,zM⟩)
     refine wpAnyH_take (i:=7) (v:=.int .u8 ((xv[0]).toNat:Int)) rfl zo zo zo (fun _ _ _ h=>h) (Or.inl ⟨zv,?hyb7⟩) hHeld ?restb7
     case hyb7=>(intro w' hSw;clear hSw;have:=hv0;go_simp;try with_reducible rfl)
     refine qn ?_
     refine aW (i:=4) zo rfl (fun K hK=> ?_)
     go_simp
     refine hid.mono ?_
     clear hid
     rintro e w3 ⟨rfl,hb3⟩
     have B3:Below V.heap.size V w3:=((vG _ V).drew).trans hb3
     refine hK _ _ (HAT.o w3 B3) ?_
     clear hK K
     have HB3:Aside (Below V.heap.size V w3):=B3
     clear B3 hb3
     refine qn ?_
     refine tk 8 (HAT.o w3 HB3.o) ?_
     have hly:=wj w3 w1.heap.size p 0 v M (4*xt+xb) (xv[0]).toNat false (HV.o.2.1.later HB3.o).ref je zj zj (UInt8.toNat_lt _)
     refine aW (i:=9) zo rfl (fun K hK=> ?_)
     go_simp
     refine hly.mono ?_
     clear hly
     rintro e w4 ⟨⟨ue,rfl⟩,v4,hr4,hk4,hg4⟩
     have HN:Aside (LofSt R nd w1 p (i+1) v4 (M.take 0++(4*xt+xb,(xv[0]).toNat,false)::M.drop 0) w4):=by
      refine ⟨hr4,?_,?_,((HV.o.2.1.later HB3.o).keep.then hk4 (fun g _ e=>e))⟩
      ·exact kh4
      exact kj9
     refine hK _ _ ?_ ?_
     ·exact kd6
     have y3:w4.cell? ⟨P,3,none⟩=some (.int .u8 (xk:Int)):=by
      exact kf8
     clear hK K hr4 hk4 hg4
     refine qn ?_
     refine wpAnyH_done zo ?_ _
     refine qn ?_
     clear HAT HV HK HCH
     go_wp2
     go_roundg (R.length - (i+1))
     case measure=>omega
     case rel=>exact ⟨i+1,_,_,zw,zj,vB _,HN.o⟩
    have dk5:((xk:Int)==105)=false:=zq
    have dkn5:(xk==105)=false:=zq
    by_cases hk0:xk=100
    ·have dk0:((xk:Int)==100)=true:=by simp;omega
     have dkn0:(xk==100)=true:=zq
     have HL:=Lib.hid (HV.o.2.1.lof.del HST.o.1 hx.o hk0 HND.o)
     have hdl:=Gq V w1.heap.size p v M xo HV.o.2.1.ref qC
     clear hk5 hk0
     go_wp2_with fail
     refine hdl.mono ?_
     clear hdl
     rintro e w2 ⟨rfl,hr2,hk2⟩
     have HN:Aside (LofSt R nd w1 p (i+1) v (sW xo M) w2):=⟨hr2,HL.o,by rw [Et];have:=HV.o.2.1.len;omega,HV.o.2.1.keep.then hk2 (fun g hg q=>absurd (HV.o.2.1.ref.row.lt g q.symm).1 zj)⟩
     clear hr2 hk2
     go_wp2
     go_roundg (R.length - (i+1))
     case measure=>omega
     case rel=>exact ⟨i+1,_,_,zw,zj,vB _,HN.o⟩
    have dk0:((xk:Int)==100)=false:=zq
    have dkn0:(xk==100)=false:=zq
    have HN:Aside (LofSt R nd w1 p (i+1) v M V):=⟨HV.o.2.1.ref,HV.o.2.1.lof.skip hx.o (fun q=>by rcases q.2 with q | q;exact hk5 q;exact hk0 q),qC,HV.o.2.1.keep⟩
    clear hk5 hk0
    go_wp2
    go_roundg (R.length - (i+1))
    case measure=>omega
    case rel=>exact ⟨i+1,_,_,zw,zj,vB _,HN.o⟩
   have dd:(xd==nd)=false:=ji
   have dd2:(xd !=nd)=true:=ji
   have HN:Aside (LofSt R nd w1 p (i+1) v M V):=⟨HV.o.2.1.ref,HV.o.2.1.lof.skip hx.o (fun q=>hd q.1),qC,HV.o.2.1.keep⟩
   clear hd
   go_wp2
   go_roundg (R.length - (i+1))
   case measure=>omega
   case rel=>exact ⟨i+1,_,_,zw,zj,vB _,HN.o⟩
  have d1:decide ((i:Int)<(R.length:Int))=false:=zq
  have d1n:decide (i<R.length)=false:=zq
  have HF:Aside (RefAt w1.heap.size u p v M/\LineIs S nd (M.map bare)/\M.length<=400/\Below w.heap.size w u):=by
   have h1:=A.o.lof
   unfold LofAt at h1
   rw [vT zj] at h1
   refine ⟨A.o.ref,h1.perm HR.o.2.2.1,qp,HR.o.2.2.2.1.trans (A.o.keep.below HR.o.2.2.2.1.size (fun k e=>by rw [e,hp.o];exact vB _))⟩
  clear A
  go_wp2
  go_ret
  exact ⟨p,v,M,_,rfl,HF.o⟩
end
section
open Go.RowKit Go.Lib Go.Sort Go.Maps
open scoped Classical
def Chain:List OpX->List (List OpX)->List OpX->Prop
 | A,[],C=>C=A
 | A,l::ls,C=>∃fresh,aK A l (.inr fresh)/\Chain (A++fresh) ls C
theorem Chain.snoc:∀ {ls:List (List OpX)} {A C l fresh:List OpX},Chain A ls C->aK C l (.inr fresh)->Chain A (ls++ [l]) (C++fresh)
 | [],A,C,l,fresh,h,h2=>by
  have h:C=A:=h
  subst h
  exact ⟨fresh,h2,rfl⟩
 | m::ms,A,C,l,fresh,h,h2=>by
  obtain ⟨f,h3,h4⟩:∃fresh,aK A m (.inr fresh)/\Chain (A++fresh) ms C:=h
  exact ⟨f,h3,Chain.snoc h4 h2⟩
theorem gc:∀ {ls:List (List OpX)} {A C C':List OpX},Chain A ls C->Chain A ls C'->C=C'
 | [],A,C,C',h,h'=>by
  have h:C=A:=h
  have h':C'=A:=h'
  rw [h,h']
 | m::ms,A,C,C',h,h'=>by
  obtain ⟨f,h3,h4⟩:∃fresh,aK A m (.inr fresh)/\Chain (A++fresh) ms C:=h
  obtain ⟨f',k3,k4⟩:∃fresh,aK A m (.inr fresh)/\Chain (A++fresh) ms C':=h'
  cases ik h3 k3
  exact gc h4 k4
theorem Aw:∀ {ls:List (List OpX)} {i j:Nat} {A C l:List OpX},Chain A (ls.take j) C->i<j->ls[i]? =some l->∃C' fresh,Chain A (ls.take i) C'/\aK C' l (.inr fresh)
 | [],i,j,A,C,l,h,hij,hl=>xW
 | m::ms,i,0,A,C,l,h,hij,hl=>zj
 | m::ms,0,j+1,A,C,l,h,hij,hl=>by
  obtain ⟨f,h3,h4⟩:∃fresh,aK A m (.inr fresh)/\Chain (A++fresh) (ms.take j) C:=h
  have e:m=l:=qi
  subst e
  exact ⟨A,f,rfl,h3⟩
 | m::ms,i+1,j+1,A,C,l,h,hij,hl=>by
  obtain ⟨f,h3,h4⟩:∃fresh,aK A m (.inr fresh)/\Chain (A++fresh) (ms.take j) C:=h
  obtain ⟨C',f',k1,k2⟩:=Aw h4 (show i<j by omega) (show ms[i]? =some l by simpa using hl)
  exact ⟨C',f',⟨f,h3,k1⟩,k2⟩
def GE (ls:List (List OpX)) (a:(Nat×Nat)⊕List OpX):Prop:=match a with
 | .inl (i,cd)=>∃C l ix,Chain [] (ls.take i) C/\ls[i]? =some l/\aK C l (.inl (ix,cd))
 | .inr C=>Chain [] ls C
theorem Js {ls:List (List OpX)} {a a':(Nat×Nat)⊕List OpX} (h:GE ls a) (h':GE ls a'):a=a':=by
 have key:∀ {i j cd:Nat} {C:List OpX},GE ls (.inl (i,cd))->Chain [] (ls.take j) C->i<j->False:=fun {i j cd C} ⟨C1,l,ix,k1,k2,k3⟩ hc hij=>by
  obtain ⟨C',f',q1,q2⟩:=Aw hc hij k2
  cases gc k1 q1
  cases ik k3 q2
 have lt:∀ {i cd:Nat},GE ls (.inl (i,cd))->i<ls.length:=fun {i cd} ⟨C1,l,ix,k1,k2,k3⟩=>(vA.1 k2).1
 rcases a with ⟨i,cd⟩ | C<;>rcases a' with ⟨j,cd'⟩ | C'
 ·obtain ⟨C1,l,ix,k1,k2,k3⟩:=id h
  obtain ⟨C2,l',ix',q1,q2,q3⟩:=id h'
  rcases Zw i j with e | e | e
  ·exact (key h q1 e).elim
  ·subst e
   rw [k2] at q2
   cases q2
   cases gc k1 q1
   cases ik k3 q3
   rfl
  exact (key h' k1 e).elim
 ·have h2:Chain [] ls C':=h'
  rw [<-uU (l:=ls)] at h2
  exact (key h h2 (lt h)).elim
 ·have h2:Chain [] ls C:=h
  rw [<-uU (l:=ls)] at h2
  exact (key h' h2 (lt h')).elim
 rw [gc (show Chain [] ls C from h) (show Chain [] ls C' from h')]
theorem KI {fresh:List OpX} (h:aK S l (.inr fresh)):fresh.length<=l.length:=by
 unfold aK at h
 cases hs:bw S 0 [] l with
 | inl p=>
  obtain ⟨i,c⟩:=p
  rw [hs] at h
  dsimp only at h
  cases h
 | inr F=>
  have hl:=(dY (cL S) hs).2.2.2.2
  rw [hs] at h
  dsimp only at h
  rcases h with ⟨_,e⟩ | ⟨_,_,e⟩ | ⟨_,_,_,e⟩ | ⟨_,_,e⟩ | ⟨_,_,e⟩
  all_goals first
   | (cases e;simpa using hl)
   | cases e
theorem LQ (x:OpX):ai x<=5:=by
 unfold ai opE fO bK fE gG gI
 repeat (first | omega | split)
theorem iF {ix:Int} {cd:Nat} (h:aK S l (.inl (ix,cd))):1<=cd/\cd<=12/\(ix= -1\/0<=ix):=by
 have hsift:∀(l:List OpX) (i:Nat) (F:List OpX) (a:Nat×Nat),bw S i F l= .inl a->1<=a.2/\a.2<=12:=by
  intro l
  induction l with
  | nil=>intro i F a ha;cases ha
  | cons o t ih=>
   intro i F a ha
   by_cases he:ai o=0
   ·cases hl:ax (S++F) (byO o) (aw o) with
    | none=>rw [ee he hl] at ha;exact ih _ _ _ ha
    | some x=>
     by_cases hx:x=o
     ·subst hx
      rw [dS he hl] at ha
      exact ih _ _ _ ha
     rw [ce he hl hx] at ha
     cases ha
     exact ⟨by show 1<=7;decide,by show 7<=12;decide⟩
   rw [gV he] at ha
   cases ha
   have:=LQ o
   exact ⟨by show 1<=ai o;omega,by show ai o<=12;omega⟩
 unfold aK at h
 cases hs:bw S 0 [] l with
 | inl p=>
  obtain ⟨i,c⟩:=p
  rw [hs] at h
  have:=hsift l 0 [] (i,c) hs
  dsimp only at h this
  cases h
  exact ⟨this.1,this.2,.inr zj⟩
 | inr fresh=>
  rw [hs] at h
  dsimp only at h
  rcases h with ⟨_,e⟩ | ⟨_,_,e⟩ | ⟨_,_,_,e⟩ | ⟨_,_,e⟩ | ⟨_,_,e⟩
  all_goals first
   | (cases e;exact ⟨zr,zr,.inl rfl⟩)
   | cases e
def me (ls:List (List OpX)):Nat:=(ls.map List.length).sum
theorem Fr (ls:List (List OpX)) {k:Nat} (h:ls[k]? =some l):me (ls.take (k+1))=me (ls.take k)+l.length:=by
 unfold me
 rw [uA,h]
 simp
theorem Eu (ls:List (List OpX)) (k:Nat):me (ls.take k)<=me ls:=by
 have:me ls=me (ls.take k)+me (ls.drop k):=by
  unfold me
  rw [<-List.sum_append,<-un,ui]
 omega
theorem oF:∀ {ls:List (List OpX)} {m:Nat},(∀l∈ls,l.length<=m)->me ls<=ls.length*m
 | [],m,h=>by simp [me]
 | l::ls,m,h=>by
  have h1:=h l zt
  have h2:=oF (fun l' hl'=>h l' (by simp [hl'])) (ls:=ls) (m:=m)
  unfold me at h2 |-
  simp only [ut,ZK,ud,Nat.succ_mul]
  omega
theorem fA:∀ {ls:List (List OpX)} {A C:List OpX},Chain A ls C->C.length<=A.length+me ls
 | [],A,C,h=>by
  have h:C=A:=h
  rw [h];simp [me]
 | m::ms,A,C,h=>by
  obtain ⟨f,h3,h4⟩:∃fresh,aK A m (.inr fresh)/\Chain (A++fresh) ms C:=h
  have h5:=fA h4
  have h6:=KI h3
  unfold me at h5 |-
  simp only [vN,ut,ZK] at h5 |-
  omega
