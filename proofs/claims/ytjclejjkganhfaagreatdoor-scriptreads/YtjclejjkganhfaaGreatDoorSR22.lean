import Derived.Test.YtjclejjkganhfaaGreatDoorSR18
import Derived.Test.YtjclejjkganhfaaGreatDoorSR19
set_option linter.unusedSimpArgs false
set_option linter.unusedVariables false
set_option maxRecDepth 100000
set_option maxHeartbeats 64000000
namespace Go.Proofs.YtjclejjkganhfaaGreatDoor
open Go.Proofs.Tryz
section
open RowKit Shelf Maps Lib Go.Sort
theorem rH{w:qW}{g p}{v}(h:w.cell? (qA g p)=some v)(q)(os):(grow (w.drewN q) os).cell? (qA g p)=some v:=
 lO (mM ⟨q,os,rfl⟩) h
def kvs(ao:Nat->Option Addr)(cap:Nat->Nat)(R:Rws):Nat->Value:=fun i=>.slice (ao i) (R i).length (cap i)
structure K5 (w:qW) (S:Nat) (c:Nat->Nat) (ao:Nat->Option Addr) (cap:Nat->Nat) (R:Rws) (fa:qO) (F:qX) (k:Nat) (ao':Nat->Option Addr) (cap':Nat->Nat) (R':Rws) (z:Bool) (c':Nat->Nat) (wr:qW):Prop where
 L0:m7 (fun k=>10<=c k/\c k<14) w wr
 y9:∀k,k<w.heap.size->c' k=c k
 F3:I4 wr S ao' cap' R'
 res:wr.heap[S+1]? =some (.cells #[qE,qE,qE,qE] 138 (0,0))
 hS:c' S=0/\c' (S+1)=0/\S=w.heap.size
 X7:E4 wr c' (kvs ao cap R) R
 F5:E4 wr c' (kvs ao' cap' R') R'
 abi:∀i,i<4->(∃t,R' i=R i++t)/\∀g,(kvs ao cap R i).ownBlock=some g->(kvs ao' cap' R' i).ownBlock=some g->cap i=cap' i
 ops:F1 wr fa F
 acp:∀a,fa=some a->c' a.block=0/\a.block≠S
 go:oF R true F=oF R' z (F.drop k)
 ne:S+1<wr.heap.size
 D4:∀i,i<4->(R' i).length<=(R i).length+k
theorem C8.r{w}{c}{ao}{cap}{R}(h:E4 w c (kvs ao cap R) R):C8 w ao R:=fun i hi=>by
 rcases h.ops hi with ⟨h1,h2⟩ | ⟨blk,off,cp,h1,h2⟩
 ·exact .inl h2
 exact .inr ⟨blk,off,(Value.slice.inj h1).1,h2⟩
theorem K5.later{w}{S}{c}{ao}{cap}{R}{fa}{F}{k}{ao'}{cap'}{R'}{z}{c'}{wr w'}(h:K5 w S c ao cap R fa F k ao' cap' R' z c' wr)(hb:qL wr w'):K5 w S c ao cap R fa F k ao' cap' R' z c' w':=
 ⟨h.L0.then (lW hb) (fun i hi e=>by have:=h.L0.size;omega),h.y9,h.F3.later hb,(hb.block _ h.ne).trans h.res,h.hS,h.X7.kept (fun i _=>⟨fun k hk _=>hb.block k hk,fun _ _=>rfl⟩),h.F5.kept (fun i _=>⟨fun k hk _=>hb.block k hk,fun _ _=>rfl⟩),h.abi,h.ops.later hb,h.acp,h.go,uT h.ne hb.size,h.D4⟩
theorem K5.G3{w}{S}{c}{ao}{cap}{R}{fa}{F}{k}{ao'}{cap'}{R'}{z}{c'}{wr}(h:K5 w S c ao cap R fa F k ao' cap' R' z c' wr){B}{ad}(hE:E8 B ad w)(hB:∀k,c k≠0->B<=k):E8 B ad wr:=
 hE.mono (h.L0.m8 hE.size (fun k e=>hB k zj))
theorem K5.next{w}{S}{c}{ao}{cap}{R}{fa}{F}{k}{ao'}{cap'}{R'}{z}{c'}{u0 u2}(h:K5 w S c ao cap R fa F k ao' cap' R' z c' u0){i}(hi:i<4){o}(hbt:(byO o).toNat=i)(hx:F[k]? =some o)(hnum:mB o=((R' i).length:Int)+1){ob}{v'}
  (hown:u2.ownsRow 0 88 8 v' ((R' i).length+1) (cellsOf (R' i)++ny o)) (ag:(u0.alloc ob).grownBy u2 (kvs ao' cap' R' i).ownBlock)
  (av:(∃g cp,kvs ao' cap' R' i=qG g (R' i).length cp/\v'=qG g ((R' i).length+1) cp)\/(v'.ownBlock=some (u0.alloc ob).heap.size/\(u0.alloc ob).grownBy u2 none)):
  ∃ao'' cap'' dR,K5 w S c ao cap R fa F (k+1) ao'' cap'' (upR R' i (R' i++ [o])) (z &&rC (R' i) o) dR (u2.setCell (qA S i) v'):=by
 obtain ⟨a,cp,rfl⟩:=mC hown
 have hcells:cellsOf (R' i++ [o])=cellsOf (R' i)++ny o:=by rw [oR];simp [cellsOf]
 have hkl:=(uI.1 hx).1;have hsz0:(u0.alloc ob).heap.size=u0.heap.size+1:=zr;have K2:=lS ag;have K3:m7 (fun q=>q=S) u2 (u2.setCell (qA S i) (.slice a ((R' i).length+1) cp)):=lZ S [_] i u2;have aJ:=K2.size;have hSS:=h.hS;have hSl:=h.F3.lt
 have hg10:∀g,(kvs ao' cap' R' i).ownBlock=some g->g<u0.heap.size/\c' g=10+i:=fun g hg=>⟨((h.F5 i hi).1.lt g hg).2,(h.F5 i hi).2 g hg⟩
 have hv10:∀g,(Value.slice a ((R' i).length+1) cp).ownBlock=some g->(g<u0.heap.size/\(kvs ao' cap' R' i).ownBlock=some g/\c' g=10+i)\/g=u0.heap.size+1:=fun g hg=>by
  rcases av with ⟨g',cp',e1,e2⟩ | ⟨e,_⟩
  ·have e3:=(Value.slice.inj e2).1;rw [e3] at hg
   cases hg
   have:(kvs ao' cap' R' i).ownBlock=some g':=by rw [e1];rfl
   exact .inl ⟨(hg10 _ this).1,this,(hg10 _ this).2⟩
  simp_all
 have aaK:∀q,q<u0.heap.size->q≠S->(kvs ao' cap' R' i).ownBlock≠some q->(u2.setCell (qA S i) (.slice a ((R' i).length+1) cp)).heap[q]? =u0.heap[q]? :=fun q hq hqS hqg=>by
  rw [K3.block q zj hqS,K2.block q zj (fun e=>hqg e.symm)];exact uR u0 ob q hq
 obtain ⟨dR,hc''⟩:∃dR:Nat->Nat,∀q,((Value.slice a ((R' i).length+1) cp).ownBlock=some q->dR q=10+i)/\((Value.slice a ((R' i).length+1) cp).ownBlock≠some q->dR q=c' q):=⟨fun q=> @ite _ ((Value.slice a ((R' i).length+1) cp).ownBlock=some q) (Classical.propDecidable _) (10+i) (c' q),fun q=>⟨fun e=>if_pos e,fun e=>if_neg e⟩⟩
 have ia:∀q,q<u0.heap.size->dR q=c' q:=fun q hq=>by
  grind
 have notS:(Value.slice a ((R' i).length+1) cp).ownBlock≠some S:=fun e=>by
  grind
 have gS:(kvs ao' cap' R' i).ownBlock≠some S:=fun e=>zL
 have gS1:(kvs ao' cap' R' i).ownBlock≠some (S+1):=fun e=>zL
 have hne:=h.ne
 have dS:∀ {kv:Nat->Value} {Q:Rws},E4 u0 c' kv Q->∀j,j<4->(∀g,(kv j).ownBlock=some g->(kvs ao' cap' R' i).ownBlock≠some g)->(u2.setCell (qA S i) (.slice a ((R' i).length+1) cp)).ownsRow 0 88 8 (kv j) (Q j).length (cellsOf (Q j))/\∀g,(kv j).ownBlock=some g->dR g=10+j:=fun {kv Q} hQ j hj hg=>by
  obtain ⟨q1,q2⟩:=hQ j hj;refine ⟨nh q1 (fun g e=>aaK g (q1.lt g e).2 (fun e'=>zL) (hg g e)),fun g e=> ?_⟩;rw [ia g (q1.lt g e).2];exact q2 g e
 have apart:∀ {kv:Nat->Value} {Q:Rws},E4 u0 c' kv Q->∀j,j<4->j≠i->∀g,(kv j).ownBlock=some g->(kvs ao' cap' R' i).ownBlock≠some g:=fun {kv Q} hQ j hj dG g e e'=>by
  have:=(hQ j hj).2 g e
  simp_all
 have newRow:(u2.setCell (qA S i) (.slice a ((R' i).length+1) cp)).ownsRow 0 88 8 (.slice a ((R' i).length+1) cp) ((R' i).length+1) (cellsOf (R' i++ [o])):=by
  rw [hcells];exact nh hown (fun g e=>K3.block g (hown.lt g e).2 (fun e'=>zL))
 have upI:upR R' i (R' i++ [o]) i=R' i++ [o]:=if_pos rfl
 have upJ:∀j,j≠i->upR R' i (R' i++ [o]) j=R' j:=fun j e=>if_neg e
 refine ⟨fun j=>if j=i then a else ao' j,fun j=>if j=i then cp else cap' j,dR,?_,?_,?_,?_,?_,?_,?_,?_,?_,?_,?_,?_,?_⟩
 ·refine ((h.L0.then ((m7.refl (fun _=>False) u0).alloc ob) (fun _ _ e=>e.elim)).then K2 (fun q hq e=> ?_)).then K3 (fun q hq e=>zj)
  have:=(hg10 q e.symm).2;have:=h.y9 q hq;omega
 ·intro q hq;rw [ia q (uT hq h.L0.size)];exact h.y9 q hq
 ·have hb2:=(K2.block S zj (fun e=>gS e.symm)).trans (uR u0 ob S hSl);have hset:=heap_setCell_same u2 S i _ _ (.slice a ((R' i).length+1) cp) (hb2.trans h.F3)
  grind [I4,upR]
 ·rw [aaK (S+1) hne zj gS1];exact h.res
 ·grind
 ·intro j hj;by_cases dG:j=i
  ·subst dG;by_cases dJ:∃g,(kvs ao cap R j).ownBlock=some g/\(kvs ao' cap' R' j).ownBlock=some g
   ·obtain ⟨g,e1,e2⟩:=dJ;have hq:=h.X7 j hj;refine ⟨?_,fun g' e'=>zL⟩;obtain ⟨tt,ht⟩:=(h.abi j hj).1;have hcap:=(h.abi j hj).2 g e1 e2
    rcases av with ⟨g',cp',e3,e4⟩ | ⟨e3,hg3⟩
    ·have e5:g'=g:=by rw [e3] at e2;exact Option.some.inj e2
     subst e5
     have e6:a=some (qB g')/\cp=cp':=⟨(Value.slice.inj e4).1,(Value.slice.inj e4).2.2⟩
     have e7:=(Value.slice.inj e3).2.2
     rcases hq.1.2 with ⟨q1,_⟩ | ⟨g2,cap2,cur2,q1,_⟩
     ·rw [q1] at e1;cases e1
     have e8:g2=g':=by rw [q1] at e1;exact Option.some.inj e1
     subst e8;have e9:=(Value.slice.inj q1).2.2
     grind [Hp]
    refine nh hq.1 (fun g' e'=> ?_);have bY:=(hq.1.lt g' e').2;have K2':=lS hg3;rw [K3.block g' zj (fun e5=>zL),K2'.block g' zj (fun e5=>by cases e5)];exact uR u0 ob g' bY
   exact dS h.X7 j hj (fun g e1 e2=>dJ ⟨g,e1,e2⟩)
  exact dS h.X7 j hj (apart h.X7 j hj dG)
 ·intro j hj;by_cases dG:j=i
  ·grind [kvs,upR]
  have e1:kvs (fun q=>if q=i then a else ao' q) (fun q=>if q=i then cp else cap' q) (upR R' i (R' i++ [o])) j=kvs ao' cap' R' j:=by
   unfold kvs;rw [upJ j dG];simp [dG]
  rw [e1,upJ j dG];exact dS h.F5 j hj (apart h.F5 j hj dG)
 ·intro j hj;by_cases dG:j=i
  ·subst dG;obtain ⟨tt,ht⟩:=(h.abi j hj).1;refine ⟨⟨tt++ [o],by rw [upI,ht];simp⟩,fun g e1 e2=> ?_⟩
   have e3:(Value.slice a ((R' j).length+1) cp).ownBlock=some g:=by
    unfold kvs at e2;rw [upI] at e2;simpa using e2
   have bY:=((h.X7 j hj).1.lt g e1).2;simp only [if_true]
   rcases av with ⟨g',cp',e4,e5⟩ | ⟨e4,_⟩
   ·have e6:g'=g:=by rw [e5] at e3;exact Option.some.inj e3
    subst e6;rw [(Value.slice.inj e5).2.2,(h.abi j hj).2 g' e1 (by rw [e4];rfl)];exact (Value.slice.inj e4).2.2
   grind
  obtain ⟨tt,ht⟩:=(h.abi j hj).1;refine ⟨⟨tt,by rw [upJ j dG,ht]⟩,fun g e1 e2=> ?_⟩;simp only [if_neg dG];refine (h.abi j hj).2 g e1 ?_
  grind [kvs]
 ·rcases h.ops with q | ⟨blk,off,e,q⟩
  ·exact .inl q
  refine .inr ⟨blk,off,e,fun j u hj=> ?_⟩;have hcell:=q j u hj;have cN:=uN u0 (qA blk (off+j)) hcell;obtain ⟨f1,f2⟩:=h.acp _ e
  grind [uS]
 ·intro a' e;obtain ⟨f1,f2⟩:=h.acp a' e;refine ⟨?_,f2⟩;obtain ⟨blk,off,e2,hc2⟩:=h.ops.e hx;rw [e] at e2
  cases e2
  have cN:=uN u0 (qA blk (off+k*8+0)) (hc2 0 _ rfl)
  simp_all
 ·rw [h.go,Yg hkl,(uI.1 hx).2,oF,hbt,if_pos hnum]
 ·grind
 intro j hj;have:=h.D4 j hj
 grind
def Wi(ad:qF)(w:qW)(c:Nat->Nat)(ao:Nat->Option Addr)(cap:Nat->Nat)(R:Rws)(F:qX)(e:Ending)(w':qW):Prop:=∃c',m7 (fun k=>10<=c k/\c k<14) w w'/\(∀k,k<w.heap.size->c' k=c k)/\E4 w' c' (kvs ao cap R) R/\
 match oF R true F with
 | none=>e= .returned (.tuple #[.agg #[qE,qE,qE,qE],eV ad 9])
 | some (R',false)=>e= .returned (.tuple #[.agg #[qE,qE,qE,qE],eV ad 3])
 | some (R',true)=>∃ao' cap',e=qT #[kV ao' cap' R',.nilIface]/\E4 w' c' (kvs ao' cap' R') R'
theorem VY{B}{ad}(w)(c)(ao)(cap)(R)(fa0)(fc0)(fresh)(hE:E8 B ad w)(hB:∀k,c k≠0->B<=k)(hR:E4 w c (kvs ao cap R) R)(hin:F1 w fa0 fresh)(cU:∀x∈fresh,mv x=0)(hcw:∀k,w.heap.size<=k->c k=0)(hn:fresh.length<=1000)(hl:∀i,i<4->(R i).length+fresh.length<=1000):
  qC 155 #[kV ao cap R,.slice fa0 fresh.length fc0] w fun e w'=>∃F:List OpX,F.Perm fresh/\F.Pairwise (fun a b=>mB a<=mB b)/\Wi ad w c ao cap R F e w':=by
 obtain ⟨S,hS⟩:=za w.heap.size;obtain ⟨U,hU⟩:=za ((w.alloc (.cells #[.slice (ao 0) (R 0).length (cap 0),.slice (ao 1) (R 1).length (cap 1),.slice (ao 2) (R 2).length (cap 2),.slice (ao 3) (R 3).length (cap 3)] 138)).alloc (.cells #[qE,qE,qE,qE] 138));have hb:qL w U:=zP;have hk:I4 U S ao cap R:=yb
 have hr:U.heap[S+1]? =some (.cells #[qE,qE,qE,qE] 138 (0,0)):=by
  rw [hU,hS];have:=heap_alloc_new (w.alloc (.cells #[.slice (ao 0) (R 0).length (cap 0),.slice (ao 1) (R 1).length (cap 1),.slice (ao 2) (R 2).length (cap 2),.slice (ao 3) (R 3).length (cap 3)] 138)) (.cells #[qE,qE,qE,qE] 138);exact kc7
 obtain ⟨V,hV⟩:=za (U.alloc (.cells #[.slice fa0 fresh.length fc0] 136))
 have ai:qL U V:=by rw [hV];exact zh U _
 have bM:V.heap[U.heap.size]? =some (.cells #[.slice fa0 fresh.length fc0] 136 (0,0)):=xB
 obtain ⟨g,off,aG,hg,hI⟩:∃g off,(fresh= []\/fa0=some (qA g off))/\g<V.heap.size/\T9 V g off fresh:=by
  rcases (hin.later hb).later ai with h | ⟨g,off,e,h⟩
  ·exact ⟨U.heap.size,0,.inl h,(uK.1 bM).1,fun j u hj=>by rw [h] at hj;simp [cellsOf] at hj⟩
  by_cases hf:fresh= []
  ·exact ⟨U.heap.size,0,.inl hf,(uK.1 bM).1,fun j u hj=>by rw [hf] at hj;simp [cellsOf] at hj⟩
  refine ⟨g,off,.inr e,?_,h⟩;obtain ⟨x,t,rfl⟩:=YV hf;exact uN V (qA g (off+0)) (h 0 (qI x.1) rfl)
 have ac:=Dc V U.heap.size g off fc0 fa0 fresh hn aG (uK.1 bM).1 hg (by simp [World.cell?,bM]) hI
 have H0:Aside (I4 V S ao cap R/\V.heap[S+1]? =some (.cells #[qE,qE,qE,qE] 138 (0,0))/\qL w V/\S=w.heap.size):=⟨hk.later ai,(ai.block _ (uK.1 hr).1).trans hr,zi hb ai,hS⟩
 have HE:Aside (E8 B ad w/\E4 w c (kvs ao cap R) R/\∀k,c k≠0->B<=k):=⟨hE,hR,hB⟩
 have HV:Aside (V=U.alloc (.cells #[.slice fa0 fresh.length fc0] 136)):=hV;clear hb hk hr ai bM aG hg hI hE hR hB hin hV;unfold kV;go_enter func155,ntmps155;go_wp2_with fail;rw [<-hU,<-hS];clear hU hS;refine (Li _ _ _ _).mono ?_;rintro e w' ⟨rfl,hw'⟩;rw [<-HV.o] at hw';subst hw';go_wp2_with fail;refine ac.mono ?_;clear ac;rintro e w1 ⟨fa,fc,F,rfl,hp,hpw,hF,hfa,hb1⟩;have hFl:=hp.length_eq
 have H1:Aside (K5 w S c ao cap R fa F 0 ao cap R true c w1/\F.Perm fresh/\F.Pairwise (fun a b=>mB a<=mB b)):=by
  have cu:=zi H0.o.2.2.1 hb1;have fm:=(uK.1 H0.o.2.1).1;refine ⟨⟨(lW cu).mono (fun k hk e=>zj),fun _ _=>rfl,H0.o.1.later hb1,(hb1.block _ fm).trans H0.o.2.1,⟨hcw _ yU,hcw _ yU,H0.o.2.2.2⟩,HE.o.2.1.kept (fun i _=>⟨fun k hk _=>cu.block k hk,fun _ _=>rfl⟩),HE.o.2.1.kept (fun i _=>⟨fun k hk _=>cu.block k hk,fun _ _=>rfl⟩),fun i _=>⟨⟨[],zr⟩,fun _ _ _=>rfl⟩,hF,fun a e=>⟨hcw _ (uO H0.o.2.2.1.size (hfa a e)),by have:=hfa a e;omega⟩,rfl,uT fm hb1.size,fun i _=>uL _⟩,hp,hpw⟩
 rw [<-hFl]
 have jC:∀x∈F,mv x=0:=fun x hx=>cU x (hp.mem_iff.1 hx)
 have hnF:F.length<=1000:=zj
 have hlF:∀i,i<4->(R i).length+F.length<=1000:=fun i hi=>by have:=hl i hi;omega
 clear hp hpw hF hfa hb1 hFl cU hl hn hcw;go_wp2;go_loopg [7,16] F.length (fun kx s7 s16 wr=>∃(k:Nat) (ao':Nat->Option Addr) (cap':Nat->Nat) (R':Rws) (z:Bool) (c':Nat->Nat),s16=qN k/\s7= .bool z/\k<=F.length/\F.length - k<=kx/\Aside (K5 w S c ao cap R fa F k ao' cap' R' z c' wr))
 case atStart=>exact ⟨0,ao,cap,R,true,c,rfl,rfl,uW _,uL _,H1.o.1⟩
 case round=>
  obtain ⟨k,ao',cap',R',z,c',rfl,rfl,hkl,aY,A⟩:=hrel;by_cases hlt:k<F.length
  ·have d1:qlt k F.length=true:=by simp;omega
   have wk:((k:Int)).toNat=k:=zj;have pk:(0:Int)<=(k:Int):=zj;have bk:(k:Int)<(F.length:Int):=zj
   obtain ⟨⟨t,b,n,kd,nd,o,s,v⟩,hx⟩:∃x,Aside (F[k]? =some x):=⟨F[k],uJ hlt⟩
   have cM:Aside (F.drop k=(t,b,n,kd,nd,o,s,v)::F.drop (k+1)):=by
    show F.drop k=_
    exact ko2
   have au:=jC _ (uP hx.o);obtain ⟨i,hi,hbi,hbt⟩:=Cm au;have hbi:b=(i:Int):=hbi;subst hbi;have wi:((i:Int)).toNat=i:=zj;have pi:(0:Int)<=(i:Int):=zj;have bi:(i:Int)<4:=zj;clear au;obtain ⟨blk,off,aG,hc⟩:=A.o.ops.e hx.o;subst aG;have r0:=hc 0 _ rfl;have r1:=hc 1 _ rfl;have r2:=hc 2 _ rfl;have r3:=hc 3 _ rfl;have r4:=hc 4 _ rfl;have r5:=hc 5 _ rfl;have r6:=hc 6 _ rfl;have r7:=hc 7 _ rfl;simp only [ZC] at r0;clear hc;obtain ⟨P,hP⟩:=za wr.heap.size;obtain ⟨U1,hU1⟩:=za (wr.alloc (qOc t (i:Int) n kd nd o s v))
   have ah:qL wr U1:=by rw [hU1];exact zh wr _
   have H2:Aside (K5 w S c ao cap R (some (qA blk off)) F k ao' cap' R' z c' U1/\m6 U1 P (t,(i:Int),n,kd,nd,o,s,v)/\P=wr.heap.size):=⟨A.o.later ah,by rw [hU1,hP];exact m6.F5 wr (t,(i:Int),n,kd,nd,o,s,v),hP⟩
   have HU:Aside (U1=wr.alloc (qOc t (i:Int) n kd nd o s v)/\P=wr.heap.size):=⟨hU1,hP⟩
   have hlen:(R' i).length<=1000:=by
    have:=hlF i hi;have:=A.o.D4 i hi;omega
   clear ah hU1 hP;go_upto_region 6 with fail;rw [<-HU.o.1,<-HU.o.2];clear r0 r1 r2 r3 r4 r5 r6 r7;obtain ⟨y0,y1,y2,y3,y4,y5,y6,y7,f8⟩:=m6.ct H2.o.2.1;have kb:=H2.o.1.F3.at hi;obtain ⟨ln,gz⟩:=za ((R' i).length);rw [<-gz] at kb hlen;have HL0:Aside (ln=(R' i).length):=gz;clear gz;by_cases dF:n=(ln:Int)+1
   ·have dn:(n !=(ln:Int)+1)=false:=by simp [dF]
    have HNN:Aside (n=(ln:Int)+1):=dF;clear dF;go_wp2_with fail
    cases bU:(R' i).getLast? with
    | none=>
     have h0:=List.getLast?_eq_none_iff.1 bU
     have HR:Aside (rC (R' i) (t,(i:Int),n,kd,nd,o,s,v)=true):=by
      show rC _ _=true
      unfold rC;rw [bU]
     obtain rfl:ln=0:=by rw [HL0.o,h0];rfl
     have dt:Aside ((R' i).length=0):=HL0.o.symm;have HP:Aside (P=wr.heap.size):=HU.o.2;clear bU h0;refine wp_region_quiet_grown zk zk ?_
     repeat (go_big_quiet_step (fail))
     refine wpQuiet_nil ?_;intro _ hw';obtain ⟨⟨nq,osq⟩,eC⟩:=hw';change _=grow (U1.drewN nq) osq at eC;subst eC
     have H3:Aside (K5 w S c ao cap R (some (qA blk off)) F k ao' cap' R' z c' (grow (U1.drewN nq) osq)/\m6 (grow (U1.drewN nq) osq) P (t,(i:Int),n,kd,nd,o,s,v)):=⟨H2.o.1.later (mM ⟨nq,osq,rfl⟩),H2.o.2.1.later (mM ⟨nq,osq,rfl⟩)⟩
     generalize grow (U1.drewN nq) osq=u0 at H3 |-
     clear H2 y0 y1 y2 y3 y4 y5 y6 y7 f8 kb;obtain ⟨y0,y1,y2,y3,y4,y5,y6,y7,f8⟩:=m6.ct H3.o.2;have lr:=H3.o.2.lt;have kb:=H3.o.1.F3.at hi;rw [dt.o] at kb;have kf:=H3.o.1.F3.fz i;have hSl:=H3.o.1.F3.lt;obtain ⟨i0,d6,aD,aw,aH⟩:=info_parts rA;obtain ⟨v',u2,ae,hown,ag,av⟩:=pd (P:=prog) (u0.alloc (qOc t (i:Int) n kd nd o s v)).drew 0 136 136 88 i0 _ 8 80 underlying136 d6 aD aw aH rfl zj (.slice (ao' i) (0) (cap' i)) (0) (cellsOf (R' i)) (by have:=(H3.o.1.F5 i hi).1.alloc (qOc t (i:Int) n kd nd o s v);unfold kvs at this;rw [dt.o] at this;exact this) (qB u0.heap.size) 1 1 zj (ny (t,(i:Int),n,kd,nd,o,s,v)) rfl (pX u0 (t,(i:Int),n,kd,nd,o,s,v) _) (ng _) zB zj (uW _);obtain ⟨va,vc,rfl⟩:=mC hown
     have ag:(u0.alloc (qOc t (i:Int) n kd nd o s v)).grownBy u2 (Value.slice (ao' i) (0) (cap' i)).ownBlock:=⟨ag.os,ag.tape,ag.output,ag.size,ag.block⟩
     have iF:∀g,(kvs ao' cap' R' i).ownBlock=some g->g<P/\g≠S:=fun g hg=>⟨yQ,fun e=>yI⟩
     have K2:=lS ag
     have bZ:(Value.slice (ao' i) (0) (cap' i)).ownBlock=(kvs ao' cap' R' i).ownBlock:=by unfold kvs;rw [dt.o]
     have kbU:∀o,(u0.alloc o).cell? (qA S i)=some (.slice (ao' i) (0) (cap' i)):=fun o=>(uS (a:=(qA S i)) (uR u0 o S hSl)).trans kb
     have aJ:=K2.size;have hSP:S<P:=xt;have bS:=(K2.block S zm (fun e=>qQ)).trans (uR u0 _ S hSl);have bP:=(K2.block P zm (fun e=>qy)).trans (uR u0 _ P lr);have kb2:=(uS (a:=(qA S i)) bS).trans kb;have kf2:=(World.frozen?_of_block (a:=(qA S i)) bS).trans kf;have PU:m6 (u0.alloc (qOc t (i:Int) n kd nd o s v)) P (t,(i:Int),n,kd,nd,o,s,v):=(uR u0 _ P lr).trans H3.o.2;have P2:m6 u2 P (t,(i:Int),n,kd,nd,o,s,v):=bP.trans H3.o.2
     have HNX:Aside (∃ao'' cap'' dR,K5 w S c ao cap R (some (qA blk off)) F (k+1) ao'' cap'' (upR R' i (R' i++ [(t,(i:Int),n,kd,nd,o,s,v)])) (z &&rC (R' i) (t,(i:Int),n,kd,nd,o,s,v)) dR (u2.setCell (qA S i) (.slice va ((0)+1) vc))):=by
      refine H3.o.1.next hi hbt hx.o xU (ob:=.cells (qOa t (i:Int) n kd nd o s v) 88) vj vT ?_
      rcases av with ⟨g,cp,e1,e2⟩ | e
      ·exact .inl ⟨g,cp,by unfold kvs;rw [dt.o];exact e1,by rw [dt.o];exact e2⟩
      exact kj0
     clear hown ag av K2 bZ bS bP iF aJ;go_wp2_with fail;refine nS (S:=(fun w'=>m6 w' P (t,(i:Int),n,kd,nd,o,s,v))) (z:=8) zk H3.o.2 (fun aa=> ?_);refine lY (i:=0) (v:= ?va0) zo rfl zk zk zk (fun _ _ _ h=>h) (Or.inl ⟨zt,?hy0⟩) aa ?rest0
     case hy0=>(intro w' _;go_simp;try with_reducible rfl)
     simp only [Act.put,uU,Zd,Ze];refine lY (i:=1) (v:= ?va1) zo rfl zk zk zk (fun _ _ _ h=>h) (Or.inl ⟨zt,?hy1⟩) aa ?rest1
     case hy1=>(intro w' _;go_simp;try with_reducible rfl)
     simp only [Act.put,uU,Zd,Ze];refine mV (i:=2) (v:= ?va2) zo zk rfl zk zk zk zk (fun _ _ _ h=>h) (Or.inl ⟨zt,?hy2⟩) aa ?rest2
     case hy2=>(intro w' ab;obtain ⟨j0,j1,j2,j3,j4,j5,j6,j7,-⟩:=ab.cells;dsimp only at j0 j1 j2 j3 j4 j5 j6 j7;go_simp;try with_reducible rfl)
     simp only [Act.put,uU,Zd,Ze];refine lY (i:=3) (v:= ?va3) zo rfl zk zk zk (fun _ _ _ h=>h) (Or.inl ⟨zt,?hy3⟩) aa ?rest3
     case hy3=>(intro w' _;go_simp;try with_reducible rfl)
     simp only [Act.put,uU,Zd,Ze];refine mV (i:=4) (v:= ?va4) zo zk rfl zk zk zk zk (fun _ _ _ h=>h) (Or.inl ⟨zt,?hy4⟩) aa ?rest4
     case hy4=>(intro w' ab;obtain ⟨j0,j1,j2,j3,j4,j5,j6,j7,-⟩:=ab.cells;dsimp only at j0 j1 j2 j3 j4 j5 j6 j7;go_simp;try with_reducible rfl)
     simp only [Act.put,uU,Zd,Ze];refine lN (i:=5) zk rfl (fun K hK=> ?_);go_simp;refine hK _ _ (.inl PU) ?_;clear hK K aa;refine lN (i:=6) zk rfl (fun K hK=> ?_);rw [if_pos zt];simp only [ZR,ZU,ZW];refine Lib.wp_append_run _ _ _ _ _ rfl (.slice (ao' i) (0) (cap' i)) (qG u0.heap.size 1 1) ?ahs ?ahx _ u2 ae ?_
     case ahs=>rfl
     case ahx=>rfl
     refine hK _ _ (.inl P2) ?_;clear hK K;refine qn ?_;refine lY (i:=7) (v:= ?va7) zo rfl zk zk zk (fun _ _ _ h=>h) (Or.inl ⟨zt,?hy7⟩) P2 ?rest7
     case hy7=>(intro w' _;go_simp;try with_reducible rfl)
     refine qn ?_;refine lN (i:=8) zk rfl (fun K hK=> ?_);go_simp;refine hK _ _ (.inr ⟨rfl,zo⟩) ?_;clear hK K;refine nZ zk ?_ _;obtain ⟨ao'',cap'',dR,HW⟩:=HNX.o;go_wp2;go_roundg (F.length - (k+1))
     case measure=>omega
     case rel=>exact ⟨k+1,ao'',cap'',_,_,dR,zN,by rw [HR.o];simp,zj,uL _,HW⟩
    | some y=>
     obtain ⟨t',b',n',kd',nd',oo',s',v2⟩:=y
     have hy:(R' i)[(R' i).length - 1]? =some (t',b',n',kd',nd',oo',s',v2):=by rw [<-List.getLast?_eq_getElem?];exact bU
     have hyl:=(uI.1 hy).1
     obtain ⟨m,rfl⟩:∃m,ln=m+1:=⟨ln - 1,by have:=HL0.o;omega⟩
     have dt:Aside ((R' i).length=m+1):=HL0.o.symm
     have em:(R' i).length - 1=m:=by have:=HL0.o;omega
     rw [em] at hy;have HP:Aside (P=wr.heap.size):=HU.o.2;obtain ⟨g2,o2,hao2,hc2⟩:=((C8.r H2.o.1.F5) i hi).e hy;have q0':U1.cell? (qA g2 (o2+m*8))=some (qI t'):=hc2 0 _ rfl;have q0:=rH q0';have q1':U1.cell? (qA g2 (o2+m*8+1))=some (qI b'):=hc2 1 _ rfl;have q1:=rH q1';have p0:=rH y0;have p1:=rH y1;have lI:Aside (ao' i=some (qA g2 o2)):=hao2
     have cX:Aside (rC (R' i) (t,(i:Int),n,kd,nd,o,s,v)=oa t' b' t (i:Int)):=by
      show rC _ _=_
      unfold rC;rw [bU];exact (CQ (t',b') (t,(i:Int))).symm
     have e1:(((m+1:Nat):Int) - 1)=(m:Int):=zj;have e2:((m:Int)).toNat=m:=zj;rw [hao2];clear bU hy hyl em hc2 hao2 q0' q1'
     cases kD:oa t' b' t (i:Int) with
     | true=>
      have HZ:Aside (oa t' b' t (i:Int)=true):=kD;have HR:Aside (rC (R' i) (t,(i:Int),n,kd,nd,o,s,v)=true):=cX.o.trans kD;clear kD;refine wp_region_quiet_grown zk zk ?_
      repeat (go_big_quiet_step (first | (go_at_call 218;refine Calls.grown_of (tH _ _ _ _ true _ HZ.o))))
      refine wpQuiet_nil ?_;intro _ hw';obtain ⟨⟨nq,osq⟩,eC⟩:=hw';change _=grow (U1.drewN nq) osq at eC;subst eC
      have H3:Aside (K5 w S c ao cap R (some (qA blk off)) F k ao' cap' R' z c' (grow (U1.drewN nq) osq)/\m6 (grow (U1.drewN nq) osq) P (t,(i:Int),n,kd,nd,o,s,v)):=⟨H2.o.1.later (mM ⟨nq,osq,rfl⟩),H2.o.2.1.later (mM ⟨nq,osq,rfl⟩)⟩
      generalize grow (U1.drewN nq) osq=u0 at H3 |-
      clear H2 q0 q1 p0 p1 y0 y1 y2 y3 y4 y5 y6 y7 f8 kb;obtain ⟨y0,y1,y2,y3,y4,y5,y6,y7,f8⟩:=m6.ct H3.o.2;have lr:=H3.o.2.lt;have kb:=H3.o.1.F3.at hi;rw [dt.o,lI.o] at kb;have kf:=H3.o.1.F3.fz i;have hSl:=H3.o.1.F3.lt;obtain ⟨i0,d6,aD,aw,aH⟩:=info_parts rA;obtain ⟨v',u2,ae,hown,ag,av⟩:=pd (P:=prog) (u0.alloc (qOc t (i:Int) n kd nd o s v)).drew 0 136 136 88 i0 _ 8 80 underlying136 d6 aD aw aH rfl zj (.slice (some (qA g2 o2)) (m+1) (cap' i)) (m+1) (cellsOf (R' i)) yL (qB u0.heap.size) 1 1 zj (ny (t,(i:Int),n,kd,nd,o,s,v)) rfl (pX u0 (t,(i:Int),n,kd,nd,o,s,v) _) (ng _) zB zj (uW _);obtain ⟨va,vc,rfl⟩:=mC hown
      have ag:(u0.alloc (qOc t (i:Int) n kd nd o s v)).grownBy u2 (Value.slice (some (qA g2 o2)) (m+1) (cap' i)).ownBlock:=⟨ag.os,ag.tape,ag.output,ag.size,ag.block⟩
      have iF:∀g,(kvs ao' cap' R' i).ownBlock=some g->g<P/\g≠S:=fun g hg=>⟨yQ,fun e=>yI⟩
      have K2:=lS ag
      have bZ:(Value.slice (some (qA g2 o2)) (m+1) (cap' i)).ownBlock=(kvs ao' cap' R' i).ownBlock:=by unfold kvs;rw [dt.o,lI.o]
      have kbU:∀o,(u0.alloc o).cell? (qA S i)=some (.slice (some (qA g2 o2)) (m+1) (cap' i)):=fun o=>(uS (a:=(qA S i)) (uR u0 o S hSl)).trans kb
      have aJ:=K2.size;have hSP:S<P:=xt;have bS:=(K2.block S zm (fun e=>qQ)).trans (uR u0 _ S hSl);have bP:=(K2.block P zm (fun e=>qy)).trans (uR u0 _ P lr);have kb2:=(uS (a:=(qA S i)) bS).trans kb;have kf2:=(World.frozen?_of_block (a:=(qA S i)) bS).trans kf;have PU:m6 (u0.alloc (qOc t (i:Int) n kd nd o s v)) P (t,(i:Int),n,kd,nd,o,s,v):=(uR u0 _ P lr).trans H3.o.2;have P2:m6 u2 P (t,(i:Int),n,kd,nd,o,s,v):=bP.trans H3.o.2
      have HNX:Aside (∃ao'' cap'' dR,K5 w S c ao cap R (some (qA blk off)) F (k+1) ao'' cap'' (upR R' i (R' i++ [(t,(i:Int),n,kd,nd,o,s,v)])) (z &&rC (R' i) (t,(i:Int),n,kd,nd,o,s,v)) dR (u2.setCell (qA S i) (.slice va ((m+1)+1) vc))):=by
       refine H3.o.1.next hi hbt hx.o xU (ob:=.cells (qOa t (i:Int) n kd nd o s v) 88) vj vT ?_
       rcases av with ⟨g,cp,e1,e2⟩ | e
       ·exact km3
       exact kj0
      clear hown ag av K2 bZ bS bP iF aJ;go_wp2_with fail;refine nS (S:=(fun w'=>m6 w' P (t,(i:Int),n,kd,nd,o,s,v))) (z:=8) zk H3.o.2 (fun aa=> ?_);refine lY (i:=0) (v:= ?vaT0) zo rfl zk zk zk (fun _ _ _ h=>h) (Or.inl ⟨zt,?hyT0⟩) aa ?restT0
      case hyT0=>(intro w' _;go_simp;try with_reducible rfl)
      simp only [Act.put,uU,Zd,Ze];refine lY (i:=1) (v:= ?vaT1) zo rfl zk zk zk (fun _ _ _ h=>h) (Or.inl ⟨zt,?hyT1⟩) aa ?restT1
      case hyT1=>(intro w' _;go_simp;try with_reducible rfl)
      simp only [Act.put,uU,Zd,Ze];refine mV (i:=2) (v:= ?vaT2) zo zk rfl zk zk zk zk (fun _ _ _ h=>h) (Or.inl ⟨zt,?hyT2⟩) aa ?restT2
      case hyT2=>(intro w' ab;obtain ⟨j0,j1,j2,j3,j4,j5,j6,j7,-⟩:=ab.cells;dsimp only at j0 j1 j2 j3 j4 j5 j6 j7;go_simp;try with_reducible rfl)
      simp only [Act.put,uU,Zd,Ze];refine lY (i:=3) (v:= ?vaT3) zo rfl zk zk zk (fun _ _ _ h=>h) (Or.inl ⟨zt,?hyT3⟩) aa ?restT3
      case hyT3=>(intro w' _;go_simp;try with_reducible rfl)
      simp only [Act.put,uU,Zd,Ze];refine mV (i:=4) (v:= ?vaT4) zo zk rfl zk zk zk zk (fun _ _ _ h=>h) (Or.inl ⟨zt,?hyT4⟩) aa ?restT4
      case hyT4=>(intro w' ab;obtain ⟨j0,j1,j2,j3,j4,j5,j6,j7,-⟩:=ab.cells;dsimp only at j0 j1 j2 j3 j4 j5 j6 j7;go_simp;try with_reducible rfl)
      simp only [Act.put,uU,Zd,Ze];refine lN (i:=5) zk rfl (fun K hK=> ?_);go_simp;refine hK _ _ (.inl PU) ?_;clear hK K aa;refine lN (i:=6) zk rfl (fun K hK=> ?_);rw [if_pos zt];simp only [ZR,ZU,ZW];refine Lib.wp_append_run _ _ _ _ _ rfl (.slice (some (qA g2 o2)) (m+1) (cap' i)) (qG u0.heap.size 1 1) ?ahsT ?ahxT _ u2 ae ?_
      case ahsT=>rfl
      case ahxT=>rfl
      refine hK _ _ (.inl P2) ?_;clear hK K;refine qn ?_;refine lY (i:=7) (v:= ?vaT7) zo rfl zk zk zk (fun _ _ _ h=>h) (Or.inl ⟨zt,?hyT7⟩) P2 ?restT7
      case hyT7=>(intro w' _;go_simp;try with_reducible rfl)
      refine qn ?_;refine lN (i:=8) zk rfl (fun K hK=> ?_);go_simp;refine hK _ _ (.inr ⟨rfl,zo⟩) ?_;clear hK K;refine nZ zk ?_ _;obtain ⟨ao'',cap'',dR,HW⟩:=HNX.o;go_wp2;go_roundg (F.length - (k+1))
      case measure=>omega
      case rel=>exact ⟨k+1,ao'',cap'',_,_,dR,zN,by rw [HR.o];simp,zj,uL _,HW⟩
     | false=>
      have HZ:Aside (oa t' b' t (i:Int)=false):=kD;have HR:Aside (rC (R' i) (t,(i:Int),n,kd,nd,o,s,v)=false):=cX.o.trans kD;clear kD;refine wp_region_quiet_grown zk zk ?_
      repeat (go_big_quiet_step (first | (go_at_call 218;refine Calls.grown_of (tH _ _ _ _ false _ HZ.o))))
      refine wpQuiet_nil ?_;intro _ hw';obtain ⟨⟨nq,osq⟩,eC⟩:=hw';change _=grow (U1.drewN nq) osq at eC;subst eC
      have H3:Aside (K5 w S c ao cap R (some (qA blk off)) F k ao' cap' R' z c' (grow (U1.drewN nq) osq)/\m6 (grow (U1.drewN nq) osq) P (t,(i:Int),n,kd,nd,o,s,v)):=⟨H2.o.1.later (mM ⟨nq,osq,rfl⟩),H2.o.2.1.later (mM ⟨nq,osq,rfl⟩)⟩
      generalize grow (U1.drewN nq) osq=u0 at H3 |-
      clear H2 q0 q1 p0 p1 y0 y1 y2 y3 y4 y5 y6 y7 f8 kb;obtain ⟨y0,y1,y2,y3,y4,y5,y6,y7,f8⟩:=m6.ct H3.o.2;have lr:=H3.o.2.lt;have kb:=H3.o.1.F3.at hi;rw [dt.o,lI.o] at kb;have kf:=H3.o.1.F3.fz i;have hSl:=H3.o.1.F3.lt;obtain ⟨i0,d6,aD,aw,aH⟩:=info_parts rA;obtain ⟨v',u2,ae,hown,ag,av⟩:=pd (P:=prog) (u0.alloc (qOc t (i:Int) n kd nd o s v)).drew 0 136 136 88 i0 _ 8 80 underlying136 d6 aD aw aH rfl zj (.slice (some (qA g2 o2)) (m+1) (cap' i)) (m+1) (cellsOf (R' i)) yL (qB u0.heap.size) 1 1 zj (ny (t,(i:Int),n,kd,nd,o,s,v)) rfl (pX u0 (t,(i:Int),n,kd,nd,o,s,v) _) (ng _) zB zj (uW _);obtain ⟨va,vc,rfl⟩:=mC hown
      have ag:(u0.alloc (qOc t (i:Int) n kd nd o s v)).grownBy u2 (Value.slice (some (qA g2 o2)) (m+1) (cap' i)).ownBlock:=⟨ag.os,ag.tape,ag.output,ag.size,ag.block⟩
      have iF:∀g,(kvs ao' cap' R' i).ownBlock=some g->g<P/\g≠S:=fun g hg=>⟨yQ,fun e=>yI⟩
      have K2:=lS ag
      have bZ:(Value.slice (some (qA g2 o2)) (m+1) (cap' i)).ownBlock=(kvs ao' cap' R' i).ownBlock:=by unfold kvs;rw [dt.o,lI.o]
      have kbU:∀o,(u0.alloc o).cell? (qA S i)=some (.slice (some (qA g2 o2)) (m+1) (cap' i)):=fun o=>(uS (a:=(qA S i)) (uR u0 o S hSl)).trans kb
      have aJ:=K2.size;have hSP:S<P:=xt;have bS:=(K2.block S zm (fun e=>qQ)).trans (uR u0 _ S hSl);have bP:=(K2.block P zm (fun e=>qy)).trans (uR u0 _ P lr);have kb2:=(uS (a:=(qA S i)) bS).trans kb;have kf2:=(World.frozen?_of_block (a:=(qA S i)) bS).trans kf;have PU:m6 (u0.alloc (qOc t (i:Int) n kd nd o s v)) P (t,(i:Int),n,kd,nd,o,s,v):=(uR u0 _ P lr).trans H3.o.2;have P2:m6 u2 P (t,(i:Int),n,kd,nd,o,s,v):=bP.trans H3.o.2
      have HNX:Aside (∃ao'' cap'' dR,K5 w S c ao cap R (some (qA blk off)) F (k+1) ao'' cap'' (upR R' i (R' i++ [(t,(i:Int),n,kd,nd,o,s,v)])) (z &&rC (R' i) (t,(i:Int),n,kd,nd,o,s,v)) dR (u2.setCell (qA S i) (.slice va ((m+1)+1) vc))):=by
       refine H3.o.1.next hi hbt hx.o xU (ob:=.cells (qOa t (i:Int) n kd nd o s v) 88) vj vT ?_
       rcases av with ⟨g,cp,e1,e2⟩ | e
       ·exact km3
       exact kj0
      clear hown ag av K2 bZ bS bP iF aJ;go_wp2_with fail;refine nS (S:=(fun w'=>m6 w' P (t,(i:Int),n,kd,nd,o,s,v))) (z:=8) zk H3.o.2 (fun aa=> ?_);refine lY (i:=0) (v:= ?vaF0) zo rfl zk zk zk (fun _ _ _ h=>h) (Or.inl ⟨zt,?hyF0⟩) aa ?restF0
      case hyF0=>(intro w' _;go_simp;try with_reducible rfl)
      simp only [Act.put,uU,Zd,Ze];refine lY (i:=1) (v:= ?vaF1) zo rfl zk zk zk (fun _ _ _ h=>h) (Or.inl ⟨zt,?hyF1⟩) aa ?restF1
      case hyF1=>(intro w' _;go_simp;try with_reducible rfl)
      simp only [Act.put,uU,Zd,Ze];refine mV (i:=2) (v:= ?vaF2) zo zk rfl zk zk zk zk (fun _ _ _ h=>h) (Or.inl ⟨zt,?hyF2⟩) aa ?restF2
      case hyF2=>(intro w' ab;obtain ⟨j0,j1,j2,j3,j4,j5,j6,j7,-⟩:=ab.cells;dsimp only at j0 j1 j2 j3 j4 j5 j6 j7;go_simp;try with_reducible rfl)
      simp only [Act.put,uU,Zd,Ze];refine lY (i:=3) (v:= ?vaF3) zo rfl zk zk zk (fun _ _ _ h=>h) (Or.inl ⟨zt,?hyF3⟩) aa ?restF3
      case hyF3=>(intro w' _;go_simp;try with_reducible rfl)
      simp only [Act.put,uU,Zd,Ze];refine mV (i:=4) (v:= ?vaF4) zo zk rfl zk zk zk zk (fun _ _ _ h=>h) (Or.inl ⟨zt,?hyF4⟩) aa ?restF4
      case hyF4=>(intro w' ab;obtain ⟨j0,j1,j2,j3,j4,j5,j6,j7,-⟩:=ab.cells;dsimp only at j0 j1 j2 j3 j4 j5 j6 j7;go_simp;try with_reducible rfl)
      simp only [Act.put,uU,Zd,Ze];refine lN (i:=5) zk rfl (fun K hK=> ?_);go_simp;refine hK _ _ (.inl PU) ?_;clear hK K aa;refine lN (i:=6) zk rfl (fun K hK=> ?_);rw [if_pos zt];simp only [ZR,ZU,ZW];refine Lib.wp_append_run _ _ _ _ _ rfl (.slice (some (qA g2 o2)) (m+1) (cap' i)) (qG u0.heap.size 1 1) ?ahsF ?ahxF _ u2 ae ?_
      case ahsF=>rfl
      case ahxF=>rfl
      refine hK _ _ (.inl P2) ?_;clear hK K;refine qn ?_;refine lY (i:=7) (v:= ?vaF7) zo rfl zk zk zk (fun _ _ _ h=>h) (Or.inl ⟨zt,?hyF7⟩) P2 ?restF7
      case hyF7=>(intro w' _;go_simp;try with_reducible rfl)
      refine qn ?_;refine lN (i:=8) zk rfl (fun K hK=> ?_);go_simp;refine hK _ _ (.inr ⟨rfl,zo⟩) ?_;clear hK K;refine nZ zk ?_ _;obtain ⟨ao'',cap'',dR,HW⟩:=HNX.o;go_wp2;go_roundg (F.length - (k+1))
      case measure=>omega
      case rel=>exact ⟨k+1,ao'',cap'',_,_,dR,zN,by rw [HR.o];simp,zj,uL _,HW⟩
   have e0:=HL0.o;clear HL0;subst e0
   have dn:(n !=((R' i).length:Int)+1)=true:=by simp [dF]
   have HNN:=Lib.hid dF;clear dF;have eg:=(K5.G3 H2.o.1 HE.o.1 HE.o.2.2).c8;have iw:=HE.o.1.low;have hsB:=HE.o.1.size;have ab:=A.o.hS.2.2;have n1:8≠S+1:=zj;have n2:S+1≠8:=zj;have HSw:=Lib.hid ab;clear ab iw hsB
   obtain ⟨z0,z1,z2,z3,zf⟩:U1.cell? (qB (S+1))=some qE/\U1.cell? (qA (S+1) 1)=some qE/\U1.cell? (qA (S+1) 2)=some qE/\U1.cell? (qA (S+1) 3)=some qE/\∀c,U1.frozen? (qA (S+1) c)=false:=by
    have:=H2.o.1.res;exact kn9
   go_wp2_with fail;go_region
   all_goals
    go_wp2;(try simp only [Exit.inBlock,Exit.then]);refine bodyPost_ret (v:=.tuple #[.agg #[qE,qE,qE,qE],eV ad 9]) ?_ rfl ⟨F,H1.o.2.1,H1.o.2.2,?_⟩
    ·rw [pU rfl];unfold eV;go_simp
    have kW:m7 (fun k=>k=S+1) U1 (U1.setCells (S+1) 0 [qE,qE,qE,qE]):=lZ (S+1) _ 0 U1;refine ⟨c',?_,A.o.y9,?_,?_⟩
    ·exact H2.o.1.L0.then kW.drew (fun j hj e=>uA)
    ·exact H2.o.1.X7.kept (fun j hj=>⟨fun q hq hcq=>kW.block q hq (fun e=>qb),fun _ _=>rfl⟩)
    rw [A.o.go,cM.o,oF,hbt,if_neg HNN.o]
  have d1:qlt k F.length=false:=zm
  have jd:Aside (oF R true F=some (R',z)):=by
   have:=A.o.go;rw [Yx zj,oF] at this;exact this
  obtain ⟨z0,z1,z2,z3,zf⟩:wr.cell? (qB (S+1))=some qE/\wr.cell? (qA (S+1) 1)=some qE/\wr.cell? (qA (S+1) 2)=some qE/\wr.cell? (qA (S+1) 3)=some qE/\∀c,wr.frozen? (qA (S+1) c)=false:=by
   have:=A.o.res;exact kn9
  have iw:=HE.o.1.low;have hsB:=HE.o.1.size;have ab:=A.o.hS.2.2
  cases z with
  | false=>
   have eg:=(K5.G3 A.o HE.o.1 HE.o.2.2).P7.c2;have n1:2≠S+1:=zj;have n2:S+1≠2:=zj;have HSw:=Lib.hid ab;clear ab iw hsB;go_wp2_with fail;go_region
   all_goals
    go_wp2;(try simp only [Exit.inBlock,Exit.then]);refine bodyPost_ret (v:=.tuple #[.agg #[qE,qE,qE,qE],eV ad 3]) ?_ rfl ⟨F,H1.o.2.1,H1.o.2.2,?_⟩
    ·rw [pU rfl];unfold eV;go_simp
    have kW:m7 (fun k=>k=S+1) wr (wr.setCells (S+1) 0 [qE,qE,qE,qE]):=lZ (S+1) _ 0 wr;refine ⟨c',?_,A.o.y9,?_,?_⟩
    ·exact A.o.L0.then kW.drew (fun j hj e=>uA)
    ·exact A.o.X7.kept (fun j hj=>⟨fun q hq hcq=>kW.block q hq (fun e=>qb),fun _ _=>rfl⟩)
    rw [jd.o]
  | true=>
   have HSw:=Lib.hid ab;clear ab iw hsB;have k0:=A.o.F3.at (i:=0) zj;have k1:=A.o.F3.at (i:=1) zj;have k2:=A.o.F3.at (i:=2) zj;have k3:=A.o.F3.at (i:=3) zj;go_wp2;(try simp only [Exit.inBlock,Exit.then]);refine bodyPost_ret (v:=.tuple #[kV ao' cap' R',.nilIface]) ?_ rfl ⟨F,H1.o.2.1,H1.o.2.2,?_⟩
   ·rw [pU rfl];unfold kV;go_simp
   have kW:m7 (fun k=>k=S+1) wr (wr.setCells (S+1) 0 [.slice (ao' 0) (R' 0).length (cap' 0),.slice (ao' 1) (R' 1).length (cap' 1),.slice (ao' 2) (R' 2).length (cap' 2),.slice (ao' 3) (R' 3).length (cap' 3)]):=lZ (S+1) _ 0 wr
   have gA:∀j,j<4->EK c' (10+j) wr c' (wr.setCells (S+1) 0 [.slice (ao' 0) (R' 0).length (cap' 0),.slice (ao' 1) (R' 1).length (cap' 1),.slice (ao' 2) (R' 2).length (cap' 2),.slice (ao' 3) (R' 3).length (cap' 3)]):=fun j hj=>⟨fun q hq hcq=>kW.block q hq (fun e=>qb),fun _ _=>rfl⟩
   refine ⟨c',A.o.L0.then kW (fun j hj e=>uA),A.o.y9,A.o.X7.kept gA,?_⟩;rw [jd.o];exact ⟨ao',cap',rfl,A.o.F5.kept gA⟩
end
section
open RowKit Lib Go.Sort
theorem rY{xs ys}(h:oI xs ys):ys.Perm xs/\ys.Pairwise (fun a b=>¬CLt (stO b) (stO a)):=by
 obtain ⟨d',⟨hp,hs⟩,rfl⟩:=h;have hsz:=mt xs
 have dX:PermIn 0 (pD xs).size (pD xs) d':=by rw [hsz];exact hp
 have hd:d'.size=xs.length:=by have:=hp.1;rw [this,hsz]
 have hperm:=JQ dX
 have hfst:(pD xs).toList.map Prod.fst=xs:=by
  unfold pD;simp
 refine ⟨?_,?_⟩
 ·have:=hperm.map Prod.fst;rw [hfst] at this;exact this.symm
 have hl:=IU d' (by rw [hd];exact hs);rw [YO];refine hl.imp (fun {a b} q=> ?_);have:=(slt_false.1 q).1
 grind [ltX,CQ,stO,oa,decide_eq_true]
theorem Us{ys:qX}(hs:ys.Pairwise (fun a b=>¬CLt (stO b) (stO a)))(hn:ys.Pairwise (fun a b=>stO a≠stO b)):ys.Pairwise (fun a b=>CLt (stO a) (stO b)):=
 (hs.and hn).imp (fun {a b} h=>by
  grind)
def zdh(v:Value):Option Addr:=match v with
 | .slice a _ _=>a
 | _=>none
def zbX(v:Value):Nat:=match v with
 | .slice _ _ c=>c
 | _=>0
theorem Nj{w}{c}{kv}{R}(h:E4 w c kv R){i}(hi:i<4):kv i=kvs (fun j=>zdh (kv j)) (fun j=>zbX (kv j)) R i:=by
 obtain ⟨a,cp,e⟩:=mC (h i hi).1
 show kv i= .slice (zdh (kv i)) (R i).length (zbX (kv i))
 rw [e];rfl
theorem E4.congr{w}{c}{kv kv'}{R}(h:E4 w c kv R)(e:∀i,i<4->kv i=kv' i):E4 w c kv' R:=fun i hi=>by rw [<-e i hi];exact h i hi
theorem n7.congr{w}{br}{T o9}{kv kv'}{bt bx bc}(h:n7 w br T o9 kv bt bx bc)(e:∀i,i<4->kv i=kv' i):n7 w br T o9 kv' bt bx bc:=by
 grind [n7]
theorem G9.aa0{w}{c}{br}{T o9}{kv}{bt bx bc}{R}{A}(h:G9 w c br T o9 kv bt bx bc R A):∃ao cap,G9 w c br T o9 (kvs ao cap R) bt bx bc R A:=
 ⟨_,_,h.cell.congr (fun i hi=>Nj h.GC hi),h.y9,h.GC.congr (fun i hi=>Nj h.GC hi),h.Y7,h.P8,h.N8,h.time⟩
structure B9 (B:Nat) (w:qW) (c:Nat->Nat) (br:Nat) (o9:Int) (R:Rws):Prop where
 GP:K7 w c br o9 R
 low:∀k,c k≠0->B<=k
 high:∀k,w.heap.size<=k->c k=0
theorem B9.later{B}{w w'}{c}{br}{o9}{R}(h:B9 B w c br o9 R)(hb:qL w w'):B9 B w' c br o9 R:=⟨h.GP.later hb,h.low,fun k hk=>h.high k (uO hb.size hk)⟩
theorem zaz(R){i}(hi:i<4)(o):(lX (upR R i (R i++ [o]))).Perm (lX R++ [o]):=by
 have sw:∀(a b:qX),(a++ [o]++b).Perm (a++b++ [o]):=fun a b=>by
  grind [Zo,Yp]
 unfold lX upR;have h4:i=0\/i=1\/i=2\/i=3:=zj
 rcases h4 with rfl | rfl | rfl | rfl
 ·grind
 ·grind
 ·grind
 simp
theorem Bv:∀(F:qX) (R:Rws) (z:Bool) (R':Rws) (z':Bool),(∀x∈F,mv x=0)->oF R z F=some (R',z')->(lX R').Perm (lX R++F)
 | [],R,z,R',z',_,h=>by
  simp_all [oF,Yd]
 | o::t,R,z,R',z',ho,h=>by
  obtain ⟨i,hi,hb,ji⟩:=Cm (ho o Zn);rw [oF,ji] at h;split at h
  ·have ih:=Bv t _ _ R' z' (fun x hx=>ho x (uY _ hx)) h;refine ih.trans ?_;have:=(zaz R hi o).append_right t
   simp_all
  cases h
theorem FC{R}(h:I3 R){ys:qX}(hm:∀x∈ys,x∈lX R)(hp:ys.Pairwise (fun x y=>¬(byO x=byO y/\mB x=mB y))):ys.Pairwise (fun a b=>stO a≠stO b):=
 hp.imp_of_mem (fun {a b} ha hb q e=>q (by rw [h.Y (hm a ha) (hm b hb) e];exact ⟨rfl,rfl⟩))
theorem G9.acH{w}{c c'}{br}{T o9}{kv}{bt bx bc}{R}{A}(h:G9 w c br T o9 kv bt bx bc R A)(e:∀k,k<w.heap.size->c' k=c k):G9 w c' br T o9 kv bt bx bc R A:=h.kept (fun i _=>⟨fun _ _ _=>rfl,e⟩)
def GL(w w':qW)(c c2:Nat->Nat):Nat->Nat:=fun k=>if k<w.heap.size then c k else if k<w'.heap.size then c2 k else 0
theorem Ji{w w'}{c c2}(hh:∀k,k<w.heap.size->c2 k=c k){k}(hk:k<w'.heap.size):GL w w' c c2 k=c2 k:=by
 simp_all [GL,if_pos,if_neg]
theorem QQ{B}{w w'}{c c2}{br}{T o9}{kv}{bt bx bc}{R}{A}(hm:G9 w' c2 br T o9 kv bt bx bc R A)(hp:A.Perm (lX R))(hK:u9 R)(hb:0<=o9/\o9<4)(hk:m7 (fun k=>c k≠0) w w')(hh:∀k,k<w.heap.size->c2 k=c k)(hB:∀k,c k≠0->B<=k)(bF:B<=w.heap.size):∃c',L7 w c w' c'/\B9 B w' c' br o9 R:=by
 refine ⟨GL w w' c c2,⟨hk,fun k q=>if_pos q⟩,⟨_,_,_,_,_,_,hm.acH (fun k q=>Ji hh q),hp,hK,hb⟩,fun k q=> ?_,fun k q=> ?_⟩
 ·unfold GL at q
  grind
 have:=hk.size;unfold GL
 grind
end
section
open RowKit
theorem FQ(W:qW){b}(hb:b<=W.heap.size):∃w0:World,w0.heap.size=b:=⟨{W with heap:=W.heap.extract 0 b},zm⟩
theorem UZ{W}{b}(h:W.heap[b]? =some (.map #[] 0)):I5 W b 0 noT:=by
 obtain ⟨w0,rfl⟩:=FQ W (Ys (uK.1 h).1);exact (Hj w0).same (h.trans (heap_alloc_new w0 _).symm)
theorem Sy{W}{b}(h:W.heap[b]? =some (.map #[] 0)):L6 W b 0 noC:=by
 obtain ⟨w0,rfl⟩:=FQ W (Ys (uK.1 h).1);exact (He w0).same (h.trans (heap_alloc_new w0 _).symm)
theorem zai{W}{b}(h:W.heap[b]? =some (.map #[] 0)):sL prog 3 W b 0 tB:=by
 obtain ⟨w0,rfl⟩:=FQ W (Ys (uK.1 h).1);exact (LV w0).same (h.trans (heap_alloc_new w0 _).symm)
def pH(bt bm bx bc cm br:Nat):Nat->Nat:=fun k=>if k=br then 1 else if k=bt\/k=bm then 2 else if k=bx then 3 else if k=bc\/k=cm then 4 else 0
def WZ(w:qW)(o9:Int)(e:Ending)(w':qW):Prop:=∃c br,e=qT #[qP br,.nilIface]/\B9 w.heap.size w' c br o9 (fun _=>[])/\qL w w'
theorem Bo{w W}{b}(h0:0<=b)(h4:b<4)(bt bm bx bc cm br)(hb:qL w W)
  (l1:w.heap.size<=bt) (l2:w.heap.size<=bm) (l3:w.heap.size<=bx) (l4:w.heap.size<=bc) (l5:w.heap.size<=cm) (l6:w.heap.size<=br)
  (d1:bt≠br) (d2:bm≠br) (d3:bx≠br/\bx≠bt/\bx≠bm) (d4:bc≠br/\bc≠bt/\bc≠bm/\bc≠bx) (d5:cm≠br/\cm≠bt/\cm≠bm/\cm≠bx)
  (e1:W.heap[bt]? =some (.cells #[.map (some bm),qE] 188 (0,0))) (e2:W.heap[bm]? =some (.map #[] 0)) (e3:W.heap[bx]? =some (.map #[] 0))
  (e4:W.heap[bc]? =some (.cells #[.map (some cm)] 191 (0,0))) (e5:W.heap[cm]? =some (.map #[] 0))
  (e6:W.heap[br]? =some (.cells #[qI 0,qI b,qE,qE,qE,qE,qP bt,.map (some bx),qP bc] 140 (0,0))):
  WZ w b (qT #[qP br,.nilIface]) W:=by
 have hlt:∀ {k:Nat} {o:Obj},W.heap[k]? =some o->k<W.heap.size:=fun h=>(uK.1 h).1
 have u1:pH bt bm bx bc cm br br=1:=by unfold pH;simp
 have u2:pH bt bm bx bc cm br bt=2:=by unfold pH;simp [d1]
 have u3:pH bt bm bx bc cm br bm=2:=by unfold pH;simp [d2]
 have u4:pH bt bm bx bc cm br bx=3:=by unfold pH;simp [d3.1,d3.2.1,d3.2.2]
 have u5:pH bt bm bx bc cm br bc=4:=by unfold pH;simp [d4.1,d4.2.1,d4.2.2.1,d4.2.2.2]
 have u6:pH bt bm bx bc cm br cm=4:=by unfold pH;simp [d5.1,d5.2.1,d5.2.2.1,d5.2.2.2]
 refine ⟨pH bt bm bx bc cm br,br,rfl,⟨⟨0,fun _=>qE,bt,bx,bc,[],⟨e6,u1,?_,?_,?_,?_,PA⟩,by unfold lX;simp_all,Cj,h0,h4⟩,fun k hk=> ?_,fun k hk=> ?_⟩,hb⟩
 ·exact fun i hi=>⟨Zi _ _ _ _,fun g hg=>xA⟩
 ·refine ⟨bm,qE,[],⟨e1,⟨[],Nq,Zi _ _ _ _⟩,⟨0,zr,zai e2⟩,List.Pairwise.nil,fun m hm=>by simp at hm⟩,List.Perm.refl _,u2,u3,fun g hg=>xA⟩
 ·refine ⟨0,noT,uL _,UZ e3,u4,fun nd=>⟨fun h=>qa,fun ⟨x,hx,_⟩=>(by cases hx)⟩,fun nd p hp=>by cases hp⟩
 ·exact ⟨cm,[],⟨e4,Sy e5⟩,List.Perm.refl _,u5,u6⟩
 ·by_cases q:k=br\/k=bt\/k=bm\/k=bx\/k=bc\/k=cm
  ·rcases q with rfl | rfl | rfl | rfl | rfl | rfl<;>assumption
  simp_all [pH,not_or]
 have:=hlt e1;have:=hlt e2;have:=hlt e3;have:=hlt e4;have:=hlt e5;have:=hlt e6;unfold pH
 grind
end
section
open RowKit Lib Go.Sort Maps
theorem zb8(pb)(b)(w)(hb:w.cell? (qA pb 1)=some (qI b)):
  qC 165 #[qP pb] w fun e w'=>e= .returned (qI b)/\w'=w:=by
 go_enter func165,ntmps165;exact ka7
theorem Ww(w)(br)(T o9)(kv)(bt bx bc)(hc:n7 w br T o9 kv bt bx bc):
  qC 122 #[qP br] w fun e w'=>e= .returned (qI o9)/\w'=w:=by
 have h:=zb8 br o9 w hc.c1;go_enter func122,ntmps122;go_wp2_with fail;refine h.mono ?_;rintro e w' ⟨rfl,rfl⟩;exact ka7
end
section
theorem plcB_iff{T}{nd} :Qc T nd=true↔(nd=0\/nd=1\/m9 T nd):=by
 simp_all [Qc,Bool.or_eq_true,decide_eq_true_eq,knownB_iff]
end
section
open RowKit Lib Go.Sort
def rB(p q:Plc):Bool:=decide (q.2.1=p.2.1) &&(decide (q.2.2=p.2.2) &&decide (q.1<p.1))
theorem WU(x y:qY):(x.toList==y.toList)=decide (x=y):=by
 have hs:x.toList=y.toList↔x=y:=⟨fun h=>by rw [Zu,Zu] at h;exact WideShapes.bytes_inj h,fun h=>by rw [h]⟩
 grind
theorem RJ(W)(B)(q p)(hB:x8 W B p):
  qC 202 (#[pG q]++ #[qP B]) W (qR (.bool (rB p q)) W):=by
 obtain ⟨n,i,s⟩:=q;obtain ⟨n',i',s'⟩:=p
 have g0:=fun o=>lO ((uM _ W).alloc zg o) hB.c0
 have g1:=fun o=>lO ((uM _ W).alloc zg o) hB.c1
 have g2:=fun o=>lO ((uM _ W).alloc zg o) hB.c2
 dsimp only at g0 g1 g2;unfold pG;dsimp only;go_enter func202,ntmps202;by_cases h1:i=i'
 ·have q1:(i==i')=true:=by simp [h1]
  by_cases h2:s=s'
  ·have q2:(s.toList==s'.toList)=true:=by rw [WU];simp [h2]
   have e:rB (n',i',s') (n,i,s)=decide (n<n'):=by unfold rB;simp [h1,h2]
   rw [e];exact ke6
  have q2:(s.toList==s'.toList)=false:=by rw [WU];simp [h2]
  have e:rB (n',i',s') (n,i,s)=false:=by unfold rB;simp [h2]
  rw [e];exact ke6
 have q1:(i==i')=false:=by simp [h1]
 have e:rB (n',i',s') (n,i,s)=false:=by unfold rB;simp [h1]
 rw [e];exact ke6
def nmB(qs:List Plc)(p:Plc):ByteArray:=if qs.any (rB p)=true then (p.2.2++⟨#[126]⟩)++⟨(Lib.itoa p.1).toArray⟩ else p.2.2
def NmR(w:qW)(b:Nat)(n:Int)(s:qY)(w':qW):Prop:=w'.cell? (qB b)=some (qI n)/\w'.cell? (qA b 2)=some (.string s)/\qL w w'
theorem NmR.later{w}{b}{n}{s}{w1 w2}(h:NmR w b n s w1)(hb:qL w1 w2):NmR w b n s w2:=⟨lO hb h.1,lO hb h.2.1,zi h.2.2 hb⟩
theorem NmR.drew{w}{b}{n}{s}{w1}(h:NmR w b n s w1):NmR w b n s w1.drew:=h.later (uM _ w1).drew
theorem NmR.b{w}{b}{n}{s}{w1}(h:NmR w b n s w1):qL w w1:=h.2.2
theorem Du(w)(ao)(cap)(qs)(p)(hin:Q9 w ao qs)(hl:qs.length<=1000000)(h0:0<=p.1)(h1:p.1<2^62)(hs:p.2.2.size<=60)
  (aF:Lib.TabIs prog w "internal/strconv.uint64pow10" .u64 Lib.pow10Tab):
  qC 145 #[.slice ao qs.length cap,pG p] w (qR (.string (nmB qs p)) w):=by
 obtain ⟨n,i,s⟩:=p;have HT:Aside (Lib.TabBelow prog w.heap.size w "internal/strconv.uint64pow10" .u64 Lib.pow10Tab):=Lib.tabBelow_of_tabIs aF;obtain ⟨b,hb⟩:=za w.heap.size;obtain ⟨U,hU⟩:=za (w.alloc (.cells #[qI n,qI i,.string s] 212));have hUb:qL w U:=zX
 have hP:x8 U b (n,i,s):=by rw [hU,hb];exact heap_alloc_new w _
 have ac:=NM (rB (n,i,s)) 202 #[qP b] (enters_of func202 zk rfl) ao cap U.heap.size qs U zg (fun W x _ hW=>RJ W b x (n,i,s) (hP.same (hW.block b hP.lt))) hl (hin.later hUb);have HN:Aside (nmB qs (n,i,s)=if qs.any (rB (n,i,s))=true then (s++⟨#[126]⟩)++⟨(Lib.itoa n).toArray⟩ else s):=rfl
 have HP:Aside (x8 U b (n,i,s)/\qL w U):=⟨hP,hUb⟩
 have hIL:(Lib.itoa n).length<=1000:=by have:=Lib.itoa_length_le n zj zj;omega
 dsimp only at h0 h1 hs;have n1:¬9223372036854775807<s.size+1:=zj;have n2:¬9223372036854775807<s.size+1+(Lib.itoa n).length:=zj;generalize qs.any (rB (n,i,s))=z at HN ac;clear hin aF hP hUb hl;unfold pG;dsimp only;go_enter func145,ntmps145;go_wp2_with fail;rw [<-hb,<-hU];refine ac.mono ?_;clear ac hU hb;rintro e w1 ⟨rfl,hb1⟩;have R1:NmR w b n s w1:=NmR.later (w1:=U) ⟨HP.o.1.c0,HP.o.1.c2,HP.o.2⟩ hb1;clear hb1
 cases z with
 | true=>
  have HM:Aside (nmB qs (n,i,s)=(s++⟨#[126]⟩)++⟨(Lib.itoa n).toArray⟩):=by rw [HN.o];rfl
  clear HN;go_wp2_with fail;obtain ⟨A0,A1,A2⟩:=id R1
  go_region_held3 (fun w'=>w'.cell? (qB b)=some (qI n)/\w'.cell? (qA b 2)=some (.string s)/\qL w w')
   (first
    | assumption
    | exact NmR.drew ⟨A0,A1,A2⟩
    | exact NmR.later yC yC)
   (first
    | (go_at_call 54;refine (BO _ zj zj _ (HT.o _ (NmR.b yC))).mono ?_;rintro e w' ⟨rfl,hb⟩))
  have R2:NmR w b n s w':=yC;go_wp2;go_ret;exact ⟨by rw [HM.o];rfl,R2.2.2⟩
 | false=>
  have HM:Aside (nmB qs (n,i,s)=s):=by rw [HN.o];rfl
  clear HN;obtain ⟨A0,A1,A2⟩:=id R1;go_wp2;go_ret;exact ⟨by rw [HM.o];rfl,A2⟩

end