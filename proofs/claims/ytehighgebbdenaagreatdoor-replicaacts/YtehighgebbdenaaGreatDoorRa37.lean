import Derived.Test.YtehighgebbdenaaGreatDoorRa36
set_option maxRecDepth 100000
set_option maxHeartbeats 64000000
namespace Go.Proofs.YtehighgebbdenaaGreatDoor
open Go.Proofs.Tryz
variable {R:List OpX} {i:Nat} {x:OpX} {w':World}
section
open Go.RowKit Go.Lib Go.Sort
theorem Dq (w:World) (base p:Nat) (v:Value) (L:List Ltr) (id:Int) (hT:RefAt base w p v L) (hL:L.length<=1000) (hx:id∉L.map (·.1)):
  Calls prog 136 #[.pointer (some ⟨p,0,none⟩),.int .i64 id] w fun e w'=>e= .returned (.int .i64 6)/\w'=w:=by
 have hf:=mF w base p v L id hT hL;rw [ew hx] at hf;clear hT hx;go_enter func136,ntmps136;go_wp2_with fail;refine hf.mono ?_;rintro e w1 ⟨rfl,hw1⟩;subst hw1;exact kb4
theorem JF (w:World) (base p i:Nat) (v:Value) (L:List Ltr) (a:Int) (c:Nat) (gn:Bool) (hT:RefAt base w p v L) (hL:L.length<=1000) (hf:cZ a L=some i) (hl:L[i]? =some (a,c,gn)):
  Calls prog 136 #[.pointer (some ⟨p,0,none⟩),.int .i64 a] w fun e w'=>e= .returned (.int .i64 0)/\RefAt base w' p v (L.set i (a,c,true))/\Keeps (fun k=>some k=v.ownBlock) w w':=by
 have hil:=(vL.1 hl).1;have hfa:=mF w base p v L a hT hL;rw [show iV a L=(i:Int) by unfold iV;rw [hf]] at hfa;obtain ⟨ao,cap,rfl⟩:=bI hT.row
 obtain ⟨g,rfl⟩:∃g,ao=some ⟨g,0,none⟩:=by
  rcases hT.row.2 with ⟨_,h2⟩ | ⟨g,cap',cur,hv,_⟩
  ·omega
  cases hv;exact ⟨g,rfl⟩
 have HT:Aside (RefAt base w p (.slice (some ⟨g,0,none⟩) L.length cap) L):=hT;have HL:Aside (L[i]? =some (a,c,gn)):=hl;have d0:decide ((i:Int)<0)=false:=zv;have ei:((i:Int)).toNat=i:=zo;have bi:(i:Int)<(L.length:Int):=zo;have pi:(0:Int)<=(i:Int):=zo;have c0:=hT.c0;obtain ⟨blk,off,hbo,f0,f1,f2⟩:=(fB hT.row).at hl;simp only [Option.some.injEq,Addr.mk.injEq,and_true] at hbo;obtain ⟨rfl,rfl⟩:=hbo;rw [vY] at f0 f1 f2
 have z0:∀j,w.frozen? ⟨g,j,none⟩=false:=fun j=>hT.row.frozenAt j
 have z1:=z0 (i*3);have z2:=z0 (i*3+1);have z3:=z0 (i*3+2);have hne:g≠p:=(hT.ne g rfl).1
 have FIN:Aside (∀W:World,W.heap=w.heap->W.os=w.os->W.tape=w.tape->W.output=w.output->RefAt base (W.setCells g (i*3) [.int .i64 a,.int .u8 (c:Int),.bool true]) p (.slice (some ⟨g,0,none⟩) L.length cap) (L.set i (a,c,true))/\Keeps (fun k=>some k=some g) w (W.setCells g (i*3) [.int .i64 a,.int .u8 (c:Int),.bool true])):=fun W e0 e1 e2 e3=>by
  have hTW:RefAt base W p (.slice (some ⟨g,0,none⟩) L.length cap) L:=hT.same (by rw [e0]) (fun g _=>by rw [e0]);have hkp:=aZ g [.int .i64 a,.int .u8 (c:Int),.bool true] (i*3) W;have hro:=hTW.row
  have hself:L.set i (a,c,gn)=L:=by
   exact ko8
  have q1:aA cz L=(aA cz L).take (i*3)++cz (a,c,gn)++(aA cz L).drop ((i+1)*3):=by
   rw [<-dN eW L i hil (a,c,gn),hself]
  have q2:=dN eW L i hil (a,c,true)
  have el:((aA cz L).take (i*3)).length=i*3:=by rw [ug,bR eW];omega
  rw [q1] at hro;have ho:=ff (vs:=[.int .i64 a,.int .u8 (c:Int),.bool true]) hro rfl;rw [el] at ho
  have hm:∀l∈L.set i (a,c,true),l∈L\/l=(a,c,true):=fun l hl=>List.mem_or_eq_of_mem_set hl
  have hkW:Keeps (fun k=>some k=some g) w W:=⟨e1,e2,e3,by rw [e0];exact vM _,fun k _ _=>by rw [e0]⟩
  refine ⟨⟨(hkp.block p hTW.lt (fun e=>hne e.symm)).trans hTW.cell,?_,hT.low,fun l hl=> ?_⟩,hkW.then hkp (fun k _ e=>by rw [e])⟩
  ·rw [Zt,q2];exact ho
  rcases hm l hl with h | rfl
  ·exact hT.small l h
  exact hT.small (a,c,gn) (vQ HL.o)
 clear hT hl hf z0;go_enter func136,ntmps136;go_wp2_with fail;refine hfa.mono ?_;rintro e w1 ⟨rfl,hw1⟩;subst hw1;clear hfa;go_upto_region 4 with fail;refine bs (S:=fun w'=>w'.cell? ⟨p,0,none⟩=some (.slice (some ⟨g,0,none⟩) L.length cap)/\w'.cell? ⟨g,i*3+1,none⟩=some (.int .u8 (c:Int))) (z:=16) zq ⟨c0,f1⟩ (fun hHeld=> ?_);refine aX (i:=0) (v:= ?v0) zu rfl zq zq zq (fun _ _ _ h=>h) (Or.inl ⟨zA,?hy0⟩) hHeld ?rest0
 case hy0=>(intro w' _;go_simp;try with_reducible rfl)
 refine qn ?_;refine aX (i:=1) (v:= ?v1) zu rfl zq zq zq (fun _ _ _ h=>h) (Or.inl ⟨zA,?hy1⟩) hHeld ?rest1
 case hy1=>(intro w' _;go_simp;try with_reducible rfl)
 refine qn ?_;refine aX (i:=2) (v:= ?v2) zu rfl zq zq zq (fun _ _ _ h=>h) (Or.inl ⟨zA,?hy2⟩) hHeld ?rest2
 case hy2=>(intro w' _;go_simp;try with_reducible rfl)
 refine qn ?_;refine aw (i:=3) (v:= ?v3) zu zq rfl zq zq zq zq (fun _ _ _ h=>h) (Or.inl ⟨zA,?hy3⟩) hHeld ?rest3
 case hy3=>(intro w' hSw;obtain ⟨k1,k2⟩:=hSw;go_simp;try with_reducible rfl)
 refine qn ?_;refine aX (i:=4) (v:= ?v4) zu rfl zq zq zq (fun _ _ _ h=>h) (Or.inl ⟨zA,?hy4⟩) hHeld ?rest4
 case hy4=>(intro w' _;go_simp;try with_reducible rfl)
 refine qn ?_;refine aX (i:=5) (v:= ?v5) zu rfl zq zq zq (fun _ _ _ h=>h) (Or.inl ⟨zA,?hy5⟩) hHeld ?rest5
 case hy5=>(intro w' _;go_simp;try with_reducible rfl)
 refine qn ?_;refine aX (i:=6) (v:= ?v6) zu rfl zq zq zq (fun _ _ _ h=>h) (Or.inl ⟨zA,?hy6⟩) hHeld ?rest6
 case hy6=>(intro w' _;go_simp;try with_reducible rfl)
 refine qn ?_;refine aX (i:=7) (v:= ?v7) zu rfl zq zq zq (fun _ _ _ h=>h) (Or.inl ⟨zA,?hy7⟩) hHeld ?rest7
 case hy7=>(intro w' _;go_simp;try with_reducible rfl)
 refine qn ?_;refine aX (i:=8) (v:= ?v8) zu rfl zq zq zq (fun _ _ _ h=>h) (Or.inl ⟨zA,?hy8⟩) hHeld ?rest8
 case hy8=>(intro w' _;go_simp;try with_reducible rfl)
 refine qn ?_;refine aw (i:=9) (v:= ?v9) zu zq rfl zq zq zq zq (fun _ _ _ h=>h) (Or.inl ⟨zA,?hy9⟩) hHeld ?rest9
 case hy9=>(intro w' hSw;obtain ⟨k1,k2⟩:=hSw;go_simp;try with_reducible rfl)
 refine qn ?_;refine aX (i:=10) (v:= ?v10) zu rfl zq zq zq (fun _ _ _ h=>h) (Or.inl ⟨zA,?hy10⟩) hHeld ?rest10
 case hy10=>(intro w' _;go_simp;try with_reducible rfl)
 refine qn ?_;refine aX (i:=11) (v:= ?v11) zu rfl zq zq zq (fun _ _ _ h=>h) (Or.inl ⟨zA,?hy11⟩) hHeld ?rest11
 case hy11=>(intro w' _;go_simp;try with_reducible rfl)
 refine qn ?_;refine aX (i:=12) (v:= ?v12) zu rfl zq zq zq (fun _ _ _ h=>h) (Or.inl ⟨zA,?hy12⟩) hHeld ?rest12
 case hy12=>(intro w' _;go_simp;try with_reducible rfl)
 refine qn ?_;refine aw (i:=13) (v:= ?v13) zu zq rfl zq zq zq zq (fun _ _ _ h=>h) (Or.inl ⟨zA,?hy13⟩) hHeld ?rest13
 case hy13=>(intro w' hSw;obtain ⟨k1,k2⟩:=hSw;go_simp;try with_reducible rfl)
 refine qn ?_;refine aX (i:=14) (v:= ?v14) zu rfl zq zq zq (fun _ _ _ h=>h) (Or.inl ⟨zA,?hy14⟩) hHeld ?rest14
 case hy14=>(intro w' _;go_simp;try with_reducible rfl)
 refine qn ?_;refine aX (i:=15) (v:= ?v15) zu rfl zq zq zq (fun _ _ _ h=>h) (Or.inl ⟨zA,?hy15⟩) hHeld ?rest15
 case hy15=>(intro w' _;go_simp;try with_reducible rfl)
 refine qn ?_;refine aF (i:=16) zq rfl (fun K hK=> ?_);go_simp;refine hK _ _ (.inr ⟨rfl,zu⟩) ?_;clear hK K;refine bu zq ?_ _;have F:=FIN.o w1.drew rfl rfl rfl rfl;have HF:=Lib.hid F;clear F FIN;go_wp2;go_ret;exact ⟨rfl,HF.o⟩
def rl (id:Int) (L:List Ltr):List Ltr:=match cZ id L with
 | none=>L
 | some i=>L.set i (id,(L[i]!).2.1,true)
theorem Aw (id:Int) (L:List Ltr):(rl id L).map fX=If id (L.map fX):=by
 unfold rl If;rw [pK]
 cases hf:cZ id L with
 | none=>rfl
 | some i=>exact FS id _
theorem Dy (id:Int) (L:List Ltr):(rl id L).length=L.length:=by
 unfold rl
 cases cZ id L with
 | none=>rfl
 | some i=>simp
theorem GO (w:World) (base p:Nat) (v:Value) (L:List Ltr) (id:Int) (hT:RefAt base w p v L) (hL:L.length<=1000):
  Calls prog 136 #[.pointer (some ⟨p,0,none⟩),.int .i64 id] w fun e w'=>e= .returned (.int .i64 (wz id L:Int))/\RefAt base w' p v (rl id L)/\Keeps (fun k=>some k=v.ownBlock) w w':=by
 unfold wz rl
 cases hf:cZ id L with
 | none=>
  refine (Dq w base p v L id hT hL (fun hm=> ?_)).mono ?_
  ·obtain ⟨l,hl,e⟩:=ut.1 hm;exact fd hf l hl e
  rintro e w' ⟨rfl,rfl⟩;exact ⟨rfl,hT,Keeps.refl _ _⟩
 | some i=>
  obtain ⟨⟨a,c,gn⟩,hl,rfl⟩:=cF hf
  have hil:=(vL.1 hl)
  refine (JF w base p i v L a c gn hT hL hf hl).mono ?_;rintro e w' ⟨rfl,h1,h2⟩;refine ⟨rfl,?_,h2⟩;dsimp only;rw [getElem!_pos L i hil.1,hil.2];exact h1
end
section
open Go.RowKit Go.Lib Go.Sort
theorem iG (w:World) (base p:Nat) (v:Value) (L:List Ltr) (h:RefAt base w p v L) (hL:L.length<=1000):
  Calls prog 71 #[.pointer (some ⟨p,0,none⟩)] w fun e w'=>∃vs,e= .returned vs/\w'.ownsRow w.heap.size 140 3 vs (aK L).length (aA cz (aK L))/\Below w.heap.size w w':=by
 obtain ⟨i0,hi,hz0,hz1,hz2⟩:=info_parts Dg;obtain ⟨ao,cap,rfl⟩:=bI h.row;have C0:Aside (w.cell? ⟨p,0,none⟩=some (.slice ao L.length cap)):=h.c0;have c0:=h.c0;have HI:Aside (LetsIn w ao L):=fB h.row;clear h;go_enter func71,ntmps71;go_wp2;clear c0;go_loopg [3,4] L.length (fun kx s3 s4 wr=>∃(k:Nat) (ov:Value),ov=s3/\s4= .int .i64 (k:Int)/\k<=L.length/\L.length - k<=kx/\Aside (wr.ownsRow w.heap.size 140 3 ov (aK (L.take k)).length (aA cz (aK (L.take k)))/\Below w.heap.size w wr))
 case atStart=>exact ⟨0,_,rfl,rfl,vV _,vM _,⟨un _ _ _ _,vP _ w⟩⟩
 case round=>
  obtain ⟨k,ov,rfl,rfl,hk,hkx,A⟩:=hrel;have c0:=cn A.o.2 C0.o;by_cases hlt:k<L.length
  ·have hltz:decide ((k:Int)<(L.length:Int))=true:=by simp;omega
   have ek:((k:Int)).toNat=k:=zo;have pk:(0:Int)<=(k:Int):=zo;have bk:(k:Int)<(L.length:Int):=zo
   obtain ⟨⟨a,c,gn⟩,hl⟩:∃l,Aside (L[k]? =some l):=⟨L[k],vN hlt⟩
   obtain ⟨blk,off,rfl,f0,f1,f2⟩:=(HI.o.later A.o.2).at hl.o;have HN:=Lib.hid (iI hl.o)
   obtain ⟨T,hT⟩:∃T,Aside (aK (L.take k)=T):=⟨_,rfl⟩
   have A':Aside (wr.ownsRow w.heap.size 140 3 ov T.length (aA cz T)/\Below w.heap.size w wr):=jP
   have hTl:T.length<=1000:=by
    have:(aK (L.take k)).length<=(L.take k).length:=Zd _ _;rw [hT.o,ug] at this;omega
   obtain ⟨u,hu⟩:=zc wr;subst hu
   cases gn with
   | true=>
    clear A;go_wp2;go_roundg (L.length - (k+1))
    case measure=>omega
    case rel=>
     refine ⟨k+1,_,rfl,zD,zo,vM _,?_⟩
     have e:aK (L.take (k+1))=T:=by rw [HN.o,hT.o];simp
     rw [e];exact A'.o
   | false=>
    clear A;go_wp2_with (at_builtin;refine wpList_append_own _ rfl _ _ 135 rfl w.heap.size 140 i0 _ 3 16 underlying135 hi hz0 hz1 hz2 rfl zo _ _ _ rfl (A'.o.1.alloc _) ⟨u.heap.size,0,none⟩ 1 1 [.int .i64 a,.int .u8 (c:Int),.bool false] rfl ?qb1 ?qb2 ?qb3 ?qb4 ?qb5 ?qb6 ?_)
    case qb3=>exact ⟨rfl,rfl,rfl⟩
    case qb4=>simp only [maxLen];omega
    case qb5=>omega
    case qb6=>have:=A'.o.2.size;simp;omega
    intro v2 u2 hown hgrow hnil;clear hnil;have W2:Below w.heap.size w u2:=(A'.o.2.alloc A'.o.2.size _).grown hgrow (by have:=A'.o.2.size;simp;omega) (fun k hk=>(A'.o.1.lt k hk).1)
    have R2:Aside (u2.ownsRow w.heap.size 140 3 v2 (aK (L.take (k+1))).length (aA cz (aK (L.take (k+1))))/\Below w.heap.size w u2):=by
     have e:aK (L.take (k+1))=T++ [(a,c,false)]:=by rw [HN.o,hT.o];rfl
     rw [e,bX,ub];exact ⟨hown,W2⟩
    clear hown hgrow W2;go_wp2;go_roundg (L.length - (k+1))
    case measure=>omega
    case rel=>exact ⟨k+1,_,rfl,zD,zo,vM _,R2⟩
  have hltz:decide ((k:Int)<(L.length:Int))=false:=zr;have ek:L.take k=L:=uc zo;rw [ek] at A;clear ek;go_wp2;go_ret;exact ⟨_,rfl,A.o⟩
theorem Dj (w:World) (base p:Nat) (v:Value) (L:List Ltr) (h:RefAt base w p v L) (hL:L.length<=1000):
  Calls prog 86 #[.pointer (some ⟨p,0,none⟩)] w fun e w'=>e= .returned (.string ⟨(co L).toArray⟩)/\Below w.heap.size w w':=by
 have hS:=iG w base p v L h hL
 have HS:Aside ((∀l∈aK L,l.2.1<256)/\(aK L).length<=1000):=⟨fun l hl=>h.small l (Zy.1 hl).1,by
  have:(aK L).length<=L.length:=Zd _ _
  omega⟩
 have HX:Aside (co L=(aK L).map fun l=>UInt8.ofNat l.2.1):=rfl;generalize aK L=M at hS HS HX;have hM:M.length<=1000:=HS.o.2;clear h;go_enter func86,ntmps86;go_wp2_with fail;refine hS.mono ?_;clear hS;rintro e w1 ⟨vs,rfl,ho,hb1⟩;obtain ⟨ao,cap,rfl⟩:=bI ho
 have H1:Aside (LetsIn w1 ao M/\Below w.heap.size w w1):=⟨fB ho,hb1⟩
 clear ho hb1;go_wp2;go_loopg [3,5] M.length (fun kx s3 s5 wr=>∃(k:Nat),s3= .string ⟨((M.take k).map fun l=>UInt8.ofNat l.2.1).toArray⟩/\s5= .int .i64 (k:Int)/\k<=M.length/\M.length - k<=kx/\Aside (Below w1.heap.size w1 wr))
 case atStart=>exact ⟨0,rfl,rfl,vV _,vM _,vP _ _⟩
 case round=>
  obtain ⟨k,rfl,rfl,hk,hkx,A⟩:=hrel;by_cases hlt:k<M.length
  ·have hltz:decide ((k:Int)<(M.length:Int))=true:=by simp;omega
   have ek:((k:Int)).toNat=k:=zo;have pk:(0:Int)<=(k:Int):=zo;have bk:(k:Int)<(M.length:Int):=zo
   obtain ⟨⟨a,c,gn⟩,hl⟩:∃l,Aside (M[k]? =some l):=⟨M[k],vN hlt⟩
   obtain ⟨blk,off,rfl,f0,f1,f2⟩:=(H1.o.1.later A.o).at hl.o;have hc:c<256:=HS.o.1 _ (vQ hl.o)
   obtain ⟨T,hT⟩:∃T,Aside (((M.take k).map fun l=>UInt8.ofNat l.2.1)=T):=⟨_,rfl⟩
   rw [hT.o]
   have hTl:T.length<=1000:=by rw [<-hT.o,uz,ug];omega
   have hadd:=lJ T [Hj c] zr;go_wp2_with fail;refine (ng c wr zo).mono ?_;rintro e w2 ⟨rfl,hb2⟩;have A2:Aside (Below w1.heap.size w1 w2):=zj A.o hb2;clear hb2;go_wp2;go_roundg (M.length - (k+1))
   case measure=>omega
   case rel=>
    refine ⟨k+1,?_,zD,zo,vM _,A2⟩;rw [uS,hl.o,uI,hT.o];rfl
  have hltz:decide ((k:Int)<(M.length:Int))=false:=zr;have ek:M.take k=M:=uc zo;rw [ek,<-HX.o];clear ek;have F:Aside (Below w.heap.size w wr):=zj H1.o.2 A.o;go_wp2;go_ret;exact ⟨rfl,F.o⟩
end
section
open Go
theorem pV {y:OpX} (hx:an x=0) (hy:an y=0) (h:CLt (stO x) (stO y)):idO x<idO y:=by
 rcases Int.lt_trichotomy (idO x) (idO y) with q | q | q
 ·exact q
 ·have:=ES hx hy q;rw [this] at h;exact absurd h cX
 exact absurd (eC h (KG hy hx q)) cX
theorem nF {x:Int} {L:List Ltr} (h:∀l∈L,l.1<x):ce x L=0:=
 lZ (vV _) (fun i l hi=>absurd hi (Nat.not_lt_zero _)) (fun l hl=>by have:=h l (vQ hl);omega)
def LofAt (R:List OpX) (nd:Int) (i:Nat) (M:List Ltr):Prop:=LineIs (R.take i) nd (M.map fX)
theorem lm (hx:R[i]? =some x):(x::R.take i).Perm (R.take (i+1)):=by
 have hi:=(vL.1 hx).1;rw [uK hi,(vL.1 hx).2];exact (List.perm_append_singleton x _).symm
theorem LofAt.start (R:List OpX) (nd:Int):LofAt R nd 0 []:=LineIs.new (fun x hx=>qP)
theorem LofAt.skip {R:List OpX} {nd:Int} {i:Nat} {M:List Ltr} (h:LofAt R nd i M) {x:OpX} (hx:R[i]? =some x) (hn:¬(aL x=nd/\(kdO x=105\/kdO x=100))):LofAt R nd (i+1) M:=
 (LineIs.skip h hn).perm (lm hx)
theorem LofAt.ins {R:List OpX} {nd:Int} {i:Nat} {M:List Ltr} (h:LofAt R nd i M) {x:OpX} (hs:StepOk (R.take i) x) (hlt:∀y∈R.take i,idO y<idO x) (hx:R[i]? =some x) (hk:kdO x=105) (hn:aL x=nd):
  ∃k:Nat,k<=M.length/\(aJ x=0->k=0)/\(aJ x≠0->iV (aJ x) M=(k:Int) - 1)/\LofAt R nd (i+1) (M.take k++(idO x,CJ x,false)::M.drop k):=by
 have hids:∀l∈M,l.1<idO x:=fun l hl=>by
  have hm:LetterN (R.take i) nd l.1:=(LineIs.mem h).1 (by rw [nk];exact ut.2 ⟨l,hl,rfl⟩);obtain ⟨y,hy,_,_,e⟩:=hm;have:=hlt y hy;omega
 have ho:aJ x=0\/aJ x∈(M.map fX).map (·.1):=by
  have he:=dG hs.ok;by_cases q:aJ x=0
  ·exact .inl q
  right;have hl:=hs.letter (.inl ⟨hk,by have:=he.2.2.2.1;omega⟩);rw [hn] at hl;exact (LineIs.mem h).2 hl
 have hnew:idO x∉(M.map fX).map (·.1):=fun q=>by
  rw [nk] at q;obtain ⟨l,hl,e⟩:=ut.1 q;have:=hids l hl;omega
 have hline:=LineIs.ins h hk hn hnew (by have:=Ca hs.ok;omega) ho (hs.ungone nd)
 have hoM:aJ x=0\/aJ x∈M.map (·.1):=by rw [nk] at ho;exact ho
 rw [Gh _ _ (show fX (idO x,CJ x,false)=(idO x,CJ x,false) from rfl)] at hline;obtain ⟨hkl,hput⟩:=wE (x:=(idO x,CJ x,false)) hoM;rw [hput] at hline;refine ⟨ef (aJ x) (idO x) M,hkl,fun q=> ?_,fun q=> ?_,LineIs.perm hline (lm hx)⟩
 ·unfold ef;rw [if_pos q];exact nF hids
 unfold ef;rw [if_neg q];obtain ⟨j,e1,e2,e3⟩:=lS (hoM.resolve_left q);rw [e1,e2];dsimp only;rw [nF (fun l hl=>hids l (Zr hl))];omega
theorem LofAt.del {R:List OpX} {nd:Int} {i:Nat} {M:List Ltr} (h:LofAt R nd i M) {x:OpX} (hs:StepOk (R.take i) x) (hx:R[i]? =some x) (hk:kdO x=100) (hn:aL x=nd):LofAt R nd (i+1) (rl (aJ x) M):=by
 have hl:=hs.letter (.inr hk);rw [hn] at hl;obtain ⟨j,hj⟩:=eQ ((LineIs.mem h).2 hl);have:=LineIs.perm (LineIs.del h hk hn hj) (lm hx);unfold LofAt;rw [Aw];unfold If;rw [hj];exact this
theorem EK {w:World} {C:Nat} {cs:Array Value} {ty:TypeId} {mk:Nat×Nat} (hc:w.heap[C]? =some (.cells cs ty mk)) (hs:cs.size<=7) (hk:Keeps (fun k=>k=C) w w') {ra:Option Addr} (hr:OpsIn w ra R):OpsIn w' ra R:=by
 rcases hr with e | ⟨g,o,e,hcell⟩
 ·exact .inl e
 by_cases hR:R= []
 ·exact .inl hR
 refine .inr ⟨g,o,e,fun j u hj=> ?_⟩
 have hne:g≠C:=by
  intro e2;subst e2
  cases R with
  | nil=>exact hR rfl
  | cons x t=>
   have h7:=hcell 7 _ (show (cellsOf (x::t))[7]? =some _ from rfl);simp only [World.cell?,hc] at h7;have hlt:¬(o+7<cs.size):=zo;simp [hlt] at h7
   try omega
 have hlt:g<w.heap.size:=vR w ⟨g,o+j,none⟩ (hcell j u hj);exact (hk.cell (a:=⟨g,o+j,none⟩) hlt (fun e=>hne e)).trans (hcell j u hj)
end
section
open Go Go.RowKit Go.Lib Go.Sort
structure LofSt (R:List OpX) (nd:Int) (w1:World) (p i:Nat) (v:Value) (M:List Ltr) (wr:World):Prop where
 ref:RefAt w1.heap.size wr p v M
 lof:LofAt R nd i M
 len:M.length<=i
 keep:Keeps (fun k=>k=p) w1 wr
theorem LofSt.later {R:List OpX} {nd:Int} {w1:World} {p i:Nat} {v:Value} {M:List Ltr} {wr w':World} (h:LofSt R nd w1 p i v M wr) (hb:Below wr.heap.size wr w'):LofSt R nd w1 p i v M w':=
 ⟨h.ref.later hb,h.lof,h.len,h.keep.then (aW hb) (fun k hk q=>by have:=h.keep.size;omega)⟩
theorem Ju {v:ByteArray} (h:v.data.toList.length=1):∃hv:0<v.size,(v.data.toList.headD 0).toNat=(v[0]).toNat:=by
 have h2:v.data.size=1:=qz
 have hv:0<v.size:=by show 0<v.data.size;omega
 refine ⟨hv,?_⟩
 have:v.data.toList= [v[0]]:=by
  have e:v.data.toList[0]? =some v[0]:=by
   rw [Yk,Zx zo];rfl
  match hh:v.data.toList,h with
  | [a],_=>rw [hh] at e;simp at e;rw [e]
 rw [this];rfl
theorem JS (h:an x=0) (hk:kdO x=105):x.2.2.2.2.2.2.2.data.toList.length=1:=by
 unfold an opE at h;split at h
 ·unfold fi at h;rw [if_neg (by show ¬(kdO x=109);omega),if_pos hk] at h;unfold gV at h;split at h
  ·cases h
  split at h
  ·cases h
  split at h
  ·cases h
  rename_i q;by_cases e:x.2.2.2.2.2.2.2.data.toList.length=1
  ·exact e
  exact absurd (.inl e) q
 cases h
theorem nL (w:World) (ao:Option Addr) (cap:Nat) (S:List OpX) (nd:Int) (h:OpsAt w (.slice ao S.length cap) S) (hW:WellK S) (hnd:S.Nodup) (hn:S.length<=400):
  Calls prog 70 #[.slice ao S.length cap,.int .i64 nd] w fun e w'=>∃p v M base,e= .returned (.pointer (some ⟨p,0,none⟩))/\Aside (RefAt base w' p v M/\LineIs S nd (M.map fX)/\M.length<=400/\Below w.heap.size w w'):=by
 obtain ⟨p,hp⟩:=ze w.heap.size;obtain ⟨U,hU⟩:=ze (w.alloc (.cells #[.slice none 0 0] 223));have hbU:Below w.heap.size w U:=yS
 have hcU:U.heap[p]? =some (.cells #[.slice none 0 0] 223 (0,0)):=by rw [hU.o,hp.o];exact heap_alloc_new w _
 have hS:=kI U (.slice ao S.length cap) S (h.later hbU) zo
 have H0:Aside (WellK S/\S.Nodup/\Below w.heap.size w U/\U.heap[p]? =some (.cells #[.slice none 0 0] 223 (0,0))):=⟨hW,hnd,hbU,hcU⟩
 clear h hW hnd hbU hcU;go_enter func70,ntmps70;go_upto_region 2 with fail;rw [<-hU.o,<-hp.o];go_wp2_with fail;refine hS.mono ?_;clear hS;rintro e w1 ⟨v1,R,rfl,hOps,hSort,hb1⟩;obtain ⟨ra,rc,rfl,hIn⟩:=kn hOps;have hRS:=cr hSort
 have HR:Aside (WellK R/\R.Pairwise (fun a b=>CLt (stO a) (stO b))/\R.Perm S/\Below w.heap.size w w1/\w1.heap[p]? =some (.cells #[.slice none 0 0] 223 (0,0))/\OpsIn w1 ra R):=by
  have hnd':R.Nodup:=hRS.1.nodup_iff.2 H0.o.2.1
  have hne:R.Pairwise (fun a b=>stO a≠stO b):=by
   rw [ud];intro i j hi hj hij e;have:=H0.o.1.stamp (hRS.1.mem_iff.1 (uR hi)) (hRS.1.mem_iff.1 (uR hj)) e;exact km4
  refine ⟨H0.o.1.congr (fun x=>hRS.1.mem_iff.symm),iq hRS.2 hne,hRS.1,zj H0.o.2.2.1 hb1,?_,hIn⟩;rw [hb1.block p (vO.1 H0.o.2.2.2).1];exact H0.o.2.2.2
 have hRl:R.length<=400:=by rw [hRS.1.length_eq];exact hn
 have HL0:Aside (LofSt R nd w1 p 0 (.slice none 0 0) [] w1):=⟨⟨HR.o.2.2.2.2.1,un _ _ _ _,(vO.1 HR.o.2.2.2.2.1).1,fun l hl=>jL⟩,LofAt.start R nd,vM _,Keeps.refl _ _⟩
 clear hOps hIn hSort hb1 hRS;go_wp2;go_loopg [7] R.length (fun kx s7 wr=>∃(i:Nat) (v:Value) (M:List Ltr),s7= .int .i64 (i:Int)/\i<=R.length/\R.length - i<=kx/\Aside (LofSt R nd w1 p i v M wr))
 case atStart=>exact ⟨0,_,[],rfl,vV _,vM _,HL0.o⟩
 case round=>
  obtain ⟨i,v,M,rfl,hi,hix,A⟩:=hrel;obtain ⟨u,hu⟩:=zc wr;subst hu;by_cases hlt:i<R.length
  ·have d1:decide ((i:Int)<(R.length:Int))=true:=by simp;omega
   have d1n:decide (i<R.length)=true:=zr
   obtain ⟨x,hx⟩:∃x,Aside (R[i]? =some x):=⟨R[i],vN hlt⟩
   have HST:Aside (StepOk (R.take i) x/\∀y∈R.take i,idO y<idO x):=by
    have h1:=lF (S:=R) (K:=[]) (ys:=R) HR.o.1 (fun y=>zv) (fun y hy=>by simp at hy) HR.o.2.1 (fun y _ q=>by simp at q) hx.o;rw [Zb] at h1;refine ⟨h1,fun y hy=> ?_⟩;obtain ⟨j,hj,rfl⟩:=uN hy
    have hj':j<i/\j<R.length:=by rw [ug] at hj;omega
    have hc:=ud.1 HR.o.2.1 j i hj'.2 hlt hj'.1;rw [(vL.1 hx.o).2] at hc;exact pV (h1.all _ hy).1 h1.ok (by rw [ZG];exact hc)
   have hin:OpsIn u ra R:=EK HR.o.2.2.2.2.1 zv A.o.keep HR.o.2.2.2.2.2;obtain ⟨b1,o1,e1,E1⟩:=hin.one hx.o;obtain ⟨xt,xb,xn,xk,xd,xo,xs,xv⟩:=x;dsimp only at E1;subst e1;have wi:((i:Int)).toNat=i:=zo;have pi:(0:Int)<=(i:Int):=zo;have bi:(i:Int)<(R.length:Int):=zo;obtain ⟨q0,q1,q2,q3,q4,q5,q6,q7⟩:=E1;obtain ⟨V,hV⟩:=ze (u.alloc (.cells #[.int .i64 xt,.int .i64 xb,.int .i64 xn,.int .u8 (xk:Int),.int .i64 xd,.int .i64 xo,.string xs,.string xv] 38));obtain ⟨P,hP⟩:=ze u.heap.size
   have HV:Aside (OpBlk V P (xt,xb,xn,xk,xd,xo,xs,xv)/\LofSt R nd w1 p i v M V/\p<P/\w1.heap.size<=P/\∀g,v.ownBlock=some g->g<P):=by
    rw [hV.o,hP.o];have hb:Below u.heap.size u (u.alloc (.cells #[.int .i64 xt,.int .i64 xb,.int .i64 xn,.int .u8 (xk:Int),.int .i64 xd,.int .i64 xo,.string xs,.string xv] 38)):=zh u _;exact ⟨OpBlk.new u (xt,xb,xn,xk,xd,xo,xs,xv),A.o.later hb,A.o.ref.lt,A.o.keep.size,fun g hg=>(A.o.ref.row.lt g hg).2⟩
   clear A hin;go_upto_region 7 with fail;rw [<-hV.o,<-hP.o];clear q0 q1 q2 q3 q4 q5 q6 q7 hV hP;obtain ⟨y0,y1,y2,y3,y4,y5,y6,y7,yf⟩:=HV.o.1.cells;dsimp only at y0 y1 y2 y3 y4 y5 y6 y7;by_cases hd:xd=nd
   ·have dd:(xd==nd)=true:=by simp [hd]
    have dd2:(xd !=nd)=false:=vz;have HND:Aside (xd=nd):=hd;clear hd;by_cases hk5:xk=105
    ·have dk5:((xk:Int)==105)=true:=by simp;omega
     have dkn5:(xk==105)=true:=zr;have dk0:((xk:Int)==100)=false:=zr;have dkn0:(xk==100)=false:=zr;have hb1':=JS HST.o.1.ok hk5;obtain ⟨hv0,hch⟩:=Ju hb1';have HCH:Aside (CJ (xt,xb,xn,xk,xd,xo,xs,xv)=(xv[0]).toNat):=hch;have hst:=aq HST.o.1.ok;have her:=dG HST.o.1.ok;have ho0:0<=xo:=her.2.2.2.1;obtain ⟨k,hkM,hk0,hk1,hkL⟩:=HV.o.2.1.lof.ins HST.o.1 HST.o.2 hx.o hk5 HND.o;have HK:Aside (LofAt R nd (i+1) (M.take k++(idO (xt,xb,xn,xk,xd,xo,xs,xv),CJ (xt,xb,xn,xk,xd,xo,xs,xv),false)::M.drop k)):=hkL;have hMl:M.length<=400:=qE;have hid:=fK xt xb V.drew hst.1 hst.2.1 hst.2.2.1 hst.2.2.2.1;clear hb1' hch hst her hkL hk5
     have HAT:Aside (∀W,Below V.heap.size V W->(fun w':World=>w'.cell? ⟨P,0,none⟩=some (.int .i64 xt)/\w'.cell? ⟨P,1,none⟩=some (.int .i64 xb)/\w'.cell? ⟨P,7,none⟩=some (.string xv)) W):=by
      intro W hW;have hc:=HV.o.1.cells;exact ⟨aT hW hc.1,aT hW hc.2.1,aT hW hc.2.2.2.2.2.2.2.1⟩
     by_cases hxo:0<xo
     ·have dxo:decide (0<xo)=true:=decide_eq_true hxo;have hf:=mF V w1.heap.size p v M xo HV.o.2.1.ref zo;rw [hk1 (by show xo≠0;omega)] at hf;have hkw:wrap64 ((k:Int) - 1+1)=(k:Int):=yl;have hkw1:(k:Int) - 1+1=(k:Int):=zo;clear hxo hk0 hk1 ho0;go_wp2_with fail;refine hf.mono ?_;clear hf;rintro e w2 ⟨rfl,hw2⟩;subst hw2;go_upto_region 12 with fail;clear y0 y1 y2 y3 y4 y5 y6 y7 yf;refine aO (S:=(fun w'=>w'.cell? ⟨P,0,none⟩=some (.int .i64 xt)/\w'.cell? ⟨P,1,none⟩=some (.int .i64 xb)/\w'.cell? ⟨P,7,none⟩=some (.string xv))) zq (HAT.o w2.drew ((vP _ w2).drew)) (fun hHeld=> ?_);refine tk 0 hHeld ?_;refine tk 1 hHeld ?_;refine tk 2 hHeld ?_;refine tk 3 hHeld ?_ (hy:=Or.inl ⟨zA,zQ⟩);refine tk 5 hHeld ?_;refine tk 6 hHeld ?_ (hy:=Or.inl ⟨zA,zQ⟩);refine wpAnyH_take (i:=7) (v:=.int .u8 ((xv[0]).toNat:Int)) rfl zq zq zq (fun _ _ _ h=>h) (Or.inl ⟨zA,?hya7⟩) hHeld ?resta7
      case hya7=>(intro w' hSw;clear hSw;have:=hv0;go_simp;try with_reducible rfl)
      refine qn ?_;refine aY (i:=4) zq rfl (fun K hK=> ?_);go_simp;refine hid.mono ?_;clear hid;rintro e w3 ⟨rfl,hb3⟩;have B3:Below w2.heap.size w2 w3:=((vP _ w2).drew).trans hb3;refine hK _ _ (HAT.o w3 B3) ?_;clear hK K;have HB3:Aside (Below w2.heap.size w2 w3):=B3;clear B3 hb3;refine qn ?_;refine tk 8 (HAT.o w3 HB3.o) ?_;have hly:=wK w3 w1.heap.size p k v M (4*xt+xb) (xv[0]).toNat false (HV.o.2.1.later HB3.o).ref ji zo zo (UInt8.toNat_lt _);refine aY (i:=9) zq rfl (fun K hK=> ?_);go_simp;refine hly.mono ?_;clear hly;rintro e w4 ⟨⟨ue,rfl⟩,v4,hr4,hk4,hg4⟩
      have HN:Aside (LofSt R nd w1 p (i+1) v4 (M.take k++(4*xt+xb,(xv[0]).toNat,false)::M.drop k) w4):=by
       refine ⟨hr4,?_,?_,((HV.o.2.1.later HB3.o).keep.then hk4 (fun g _ e=>e))⟩
       ·exact ki8
       exact kl8
      refine hK _ _ ?_ ?_
      ·exact ke0
      have y3:w4.cell? ⟨P,3,none⟩=some (.int .u8 (xk:Int)):=by
       exact kh0
      clear hK K hr4 hk4 hg4;refine qn ?_;refine wpAnyH_done zq ?_ _;refine qn ?_;clear HAT HV HK HCH;go_wp2;go_roundg (R.length - (i+1))
      case measure=>omega
      case rel=>exact ⟨i+1,_,_,zD,zo,vM _,HN.o⟩
     have dxo:decide (0<xo)=false:=decide_eq_false hxo;have hk0':k=0:=hk0 (by show xo=0;omega);subst hk0';clear hxo hk0 hk1 ho0;go_upto_region 12 with fail;clear y0 y1 y2 y3 y4 y5 y6 y7 yf;refine aO (S:=(fun w'=>w'.cell? ⟨P,0,none⟩=some (.int .i64 xt)/\w'.cell? ⟨P,1,none⟩=some (.int .i64 xb)/\w'.cell? ⟨P,7,none⟩=some (.string xv))) zq (HAT.o V.drew ((vP _ V).drew)) (fun hHeld=> ?_);refine tk 0 hHeld ?_;refine tk 1 hHeld ?_;refine tk 2 hHeld ?_;refine tk 3 hHeld ?_ (hy:=Or.inl ⟨zA,zQ⟩);refine tk 5 hHeld ?_;refine tk 6 hHeld ?_ (hy:=Or.inl ⟨zA,zQ⟩);refine wpAnyH_take (i:=7) (v:=.int .u8 ((xv[0]).toNat:Int)) rfl zq zq zq (fun _ _ _ h=>h) (Or.inl ⟨zA,?hyb7⟩) hHeld ?restb7
     case hyb7=>(intro w' hSw;clear hSw;have:=hv0;go_simp;try with_reducible rfl)
     refine qn ?_;refine aY (i:=4) zq rfl (fun K hK=> ?_);go_simp;refine hid.mono ?_;clear hid;rintro e w3 ⟨rfl,hb3⟩;have B3:Below V.heap.size V w3:=((vP _ V).drew).trans hb3;refine hK _ _ (HAT.o w3 B3) ?_;clear hK K;have HB3:Aside (Below V.heap.size V w3):=B3;clear B3 hb3;refine qn ?_;refine tk 8 (HAT.o w3 HB3.o) ?_;have hly:=wK w3 w1.heap.size p 0 v M (4*xt+xb) (xv[0]).toNat false (HV.o.2.1.later HB3.o).ref ji zo zo (UInt8.toNat_lt _);refine aY (i:=9) zq rfl (fun K hK=> ?_);go_simp;refine hly.mono ?_;clear hly;rintro e w4 ⟨⟨ue,rfl⟩,v4,hr4,hk4,hg4⟩
     have HN:Aside (LofSt R nd w1 p (i+1) v4 (M.take 0++(4*xt+xb,(xv[0]).toNat,false)::M.drop 0) w4):=by
      refine ⟨hr4,?_,?_,((HV.o.2.1.later HB3.o).keep.then hk4 (fun g _ e=>e))⟩
      ·exact ki8
      exact kl8
     refine hK _ _ ?_ ?_
     ·exact ke0
     have y3:w4.cell? ⟨P,3,none⟩=some (.int .u8 (xk:Int)):=by
      exact kh0
     clear hK K hr4 hk4 hg4;refine qn ?_;refine wpAnyH_done zq ?_ _;refine qn ?_;clear HAT HV HK HCH;go_wp2;go_roundg (R.length - (i+1))
     case measure=>omega
     case rel=>exact ⟨i+1,_,_,zD,zo,vM _,HN.o⟩
    have dk5:((xk:Int)==105)=false:=zr;have dkn5:(xk==105)=false:=zr;by_cases hk0:xk=100
    ·have dk0:((xk:Int)==100)=true:=by simp;omega
     have dkn0:(xk==100)=true:=zr;have HL:=Lib.hid (HV.o.2.1.lof.del HST.o.1 hx.o hk0 HND.o);have hdl:=GO V w1.heap.size p v M xo HV.o.2.1.ref qE;clear hk5 hk0;go_wp2_with fail;refine hdl.mono ?_;clear hdl;rintro e w2 ⟨rfl,hr2,hk2⟩
     have HN:Aside (LofSt R nd w1 p (i+1) v (rl xo M) w2):=⟨hr2,HL.o,by rw [Dy];have:=HV.o.2.1.len;omega,HV.o.2.1.keep.then hk2 (fun g hg q=>absurd (HV.o.2.1.ref.row.lt g q.symm).1 zo)⟩
     clear hr2 hk2;go_wp2;go_roundg (R.length - (i+1))
     case measure=>omega
     case rel=>exact ⟨i+1,_,_,zD,zo,vM _,HN.o⟩
    have dk0:((xk:Int)==100)=false:=zr;have dkn0:(xk==100)=false:=zr
    have HN:Aside (LofSt R nd w1 p (i+1) v M V):=⟨HV.o.2.1.ref,HV.o.2.1.lof.skip hx.o (fun q=>by rcases q.2 with q | q;exact hk5 q;exact hk0 q),qE,HV.o.2.1.keep⟩
    clear hk5 hk0;go_wp2;go_roundg (R.length - (i+1))
    case measure=>omega
    case rel=>exact ⟨i+1,_,_,zD,zo,vM _,HN.o⟩
   have dd:(xd==nd)=false:=vz;have dd2:(xd !=nd)=true:=vz
   have HN:Aside (LofSt R nd w1 p (i+1) v M V):=⟨HV.o.2.1.ref,HV.o.2.1.lof.skip hx.o (fun q=>hd q.1),qE,HV.o.2.1.keep⟩
   clear hd;go_wp2;go_roundg (R.length - (i+1))
   case measure=>omega
   case rel=>exact ⟨i+1,_,_,zD,zo,vM _,HN.o⟩
  have d1:decide ((i:Int)<(R.length:Int))=false:=zr;have d1n:decide (i<R.length)=false:=zr
  have HF:Aside (RefAt w1.heap.size u p v M/\LineIs S nd (M.map fX)/\M.length<=400/\Below w.heap.size w u):=by
   have h1:=A.o.lof;unfold LofAt at h1;rw [uc zo] at h1;refine ⟨A.o.ref,h1.perm HR.o.2.2.1,qv,HR.o.2.2.2.1.trans (A.o.keep.below HR.o.2.2.2.1.size (fun k e=>by rw [e,hp.o];exact vM _))⟩
  clear A;go_wp2;go_ret;exact ⟨p,v,M,_,rfl,HF.o⟩
