import Derived.Test.YtjclejjkganhfaaGreatDoorSA11
import Derived.Test.YtjclejjkganhfaaGreatDoorSA14
import Derived.Sort.OwnSortedInts
set_option linter.unusedSimpArgs false
set_option linter.unusedVariables false
set_option maxRecDepth 100000
set_option maxHeartbeats 64000000
namespace Go.Proofs.YtjclejjkganhfaaGreatDoor
open Go.Proofs.Tryz
section
open RowKit Shelf Maps Lib Go.Sort
theorem rN{w:qW}{g p}{v}(h:w.cell? (qA g p)=some v)(q)(os):(grow (w.drewN q) os).cell? (qA g p)=some v:=
 mZ (mJ ⟨q,os,rfl⟩) h
def kvs(ao:Nat->Option Addr)(cap:Nat->Nat)(R:Rws):Nat->Value:=fun i=>.slice (ao i) (R i).length (cap i)
structure K6 (w:qW) (S:Nat) (c:Nat->Nat) (ao:Nat->Option Addr) (cap:Nat->Nat) (R:Rws) (fa:qO) (F:qX) (k:Nat) (ao':Nat->Option Addr) (cap':Nat->Nat) (R':Rws) (z:Bool) (c':Nat->Nat) (wr:qW):Prop where
 L5:m7 (fun k=>10<=c k/\c k<14) w wr
 B9:∀k,k<w.heap.size->c' k=c k
 F9:I5 wr S ao' cap' R'
 res:wr.heap[S+1]? =some (.cells #[qE,qE,qE,qE] 138 (0,0))
 hS:c' S=0/\c' (S+1)=0/\S=w.heap.size
 X9:E6 wr c' (kvs ao cap R) R
 GA:E6 wr c' (kvs ao' cap' R') R'
 aba:∀i,i<4->(∃t,R' i=R i++t)/\∀g,(kvs ao cap R i).ownBlock=some g->(kvs ao' cap' R' i).ownBlock=some g->cap i=cap' i
 ops:F2 wr fa F
 acb:∀a,fa=some a->c' a.block=0/\a.block≠S
 go:oD R true F=oD R' z (F.drop k)
 ne:S+1<wr.heap.size
 y9:∀i,i<4->(R' i).length<=(R i).length+k
theorem D7.r{w}{c}{ao}{cap}{R}(h:E6 w c (kvs ao cap R) R):D7 w ao R:=fun i hi=>by
 rcases h.ops hi with ⟨h1,h2⟩ | ⟨blk,off,cp,h1,h2⟩
 ·exact .inl h2
 exact .inr ⟨blk,off,(Value.slice.inj h1).1,h2⟩
theorem K6.later{w}{S}{c}{ao}{cap}{R}{fa}{F}{k}{ao'}{cap'}{R'}{z}{c'}{wr w'}(h:K6 w S c ao cap R fa F k ao' cap' R' z c' wr)(hb:qL wr w'):K6 w S c ao cap R fa F k ao' cap' R' z c' w':=
 ⟨h.L5.then (lW hb) (fun i hi e=>by have:=h.L5.size;omega),h.B9,h.F9.later hb,(hb.block _ h.ne).trans h.res,h.hS,h.X9.kept (fun i _=>⟨fun k hk _=>hb.block k hk,fun _ _=>rfl⟩),h.GA.kept (fun i _=>⟨fun k hk _=>hb.block k hk,fun _ _=>rfl⟩),h.aba,h.ops.later hb,h.acb,h.go,uY h.ne hb.size,h.y9⟩
theorem K6.G6{w}{S}{c}{ao}{cap}{R}{fa}{F}{k}{ao'}{cap'}{R'}{z}{c'}{wr}(h:K6 w S c ao cap R fa F k ao' cap' R' z c' wr){B}{ad}(hE:F1 B ad w)(hB:∀k,c k≠0->B<=k):F1 B ad wr:=
 hE.mono (h.L5.m8 hE.size (fun k e=>hB k zj))
theorem K6.next{w}{S}{c}{ao}{cap}{R}{fa}{F}{k}{ao'}{cap'}{R'}{z}{c'}{u0 u2}(h:K6 w S c ao cap R fa F k ao' cap' R' z c' u0){i}(hi:i<4){o}(hbt:(byO o).toNat=i)(hx:F[k]? =some o)(hnum:mB o=((R' i).length:Int)+1){ob}{v'}
  (hown:u2.ownsRow 0 88 8 v' ((R' i).length+1) (cellsOf (R' i)++nD o)) (ag:(u0.alloc ob).grownBy u2 (kvs ao' cap' R' i).ownBlock)
  (av:(∃g cp,kvs ao' cap' R' i=qG g (R' i).length cp/\v'=qG g ((R' i).length+1) cp)\/(v'.ownBlock=some (u0.alloc ob).heap.size/\(u0.alloc ob).grownBy u2 none)):
  ∃ao'' cap'' dO,K6 w S c ao cap R fa F (k+1) ao'' cap'' (upR R' i (R' i++ [o])) (z &&rJ (R' i) o) dO (u2.setCell (qA S i) v'):=by
 obtain ⟨a,cp,rfl⟩:=mC hown
 have hcells:cellsOf (R' i++ [o])=cellsOf (R' i)++nD o:=by rw [oL];simp [cellsOf]
 have hkl:=(uK.1 hx).1;have hsz0:(u0.alloc ob).heap.size=u0.heap.size+1:=zq;have K2:=lS ag;have K3:m7 (fun q=>q=S) u2 (u2.setCell (qA S i) (.slice a ((R' i).length+1) cp)):=lZ S [_] i u2;have aN:=K2.size;have hSS:=h.hS;have hSl:=h.F9.lt
 have hg10:∀g,(kvs ao' cap' R' i).ownBlock=some g->g<u0.heap.size/\c' g=10+i:=fun g hg=>⟨((h.GA i hi).1.lt g hg).2,(h.GA i hi).2 g hg⟩
 have hv10:∀g,(Value.slice a ((R' i).length+1) cp).ownBlock=some g->(g<u0.heap.size/\(kvs ao' cap' R' i).ownBlock=some g/\c' g=10+i)\/g=u0.heap.size+1:=fun g hg=>by
  rcases av with ⟨g',cp',e1,e2⟩ | ⟨e,_⟩
  ·have e3:=(Value.slice.inj e2).1;rw [e3] at hg
   cases hg
   have:(kvs ao' cap' R' i).ownBlock=some g':=by rw [e1];rfl
   exact .inl ⟨(hg10 _ this).1,this,(hg10 _ this).2⟩
  simp_all
 have aaN:∀q,q<u0.heap.size->q≠S->(kvs ao' cap' R' i).ownBlock≠some q->(u2.setCell (qA S i) (.slice a ((R' i).length+1) cp)).heap[q]? =u0.heap[q]? :=fun q hq hqS hqg=>by
  rw [K3.block q zj hqS,K2.block q zj (fun e=>hqg e.symm)];exact uT u0 ob q hq
 obtain ⟨dO,hc''⟩:∃dO:Nat->Nat,∀q,((Value.slice a ((R' i).length+1) cp).ownBlock=some q->dO q=10+i)/\((Value.slice a ((R' i).length+1) cp).ownBlock≠some q->dO q=c' q):=⟨fun q=> @ite _ ((Value.slice a ((R' i).length+1) cp).ownBlock=some q) (Classical.propDecidable _) (10+i) (c' q),fun q=>⟨fun e=>if_pos e,fun e=>if_neg e⟩⟩
 have gU:∀q,q<u0.heap.size->dO q=c' q:=fun q hq=>by
  grind
 have notS:(Value.slice a ((R' i).length+1) cp).ownBlock≠some S:=fun e=>by
  grind
 have gS:(kvs ao' cap' R' i).ownBlock≠some S:=fun e=>zM
 have gS1:(kvs ao' cap' R' i).ownBlock≠some (S+1):=fun e=>zM
 have hne:=h.ne
 have dP:∀ {kv:Nat->Value} {Q:Rws},E6 u0 c' kv Q->∀j,j<4->(∀g,(kv j).ownBlock=some g->(kvs ao' cap' R' i).ownBlock≠some g)->(u2.setCell (qA S i) (.slice a ((R' i).length+1) cp)).ownsRow 0 88 8 (kv j) (Q j).length (cellsOf (Q j))/\∀g,(kv j).ownBlock=some g->dO g=10+j:=fun {kv Q} hQ j hj hg=>by
  obtain ⟨q1,q2⟩:=hQ j hj;refine ⟨oZ q1 (fun g e=>aaN g (q1.lt g e).2 (fun e'=>zM) (hg g e)),fun g e=> ?_⟩;rw [gU g (q1.lt g e).2];exact q2 g e
 have apart:∀ {kv:Nat->Value} {Q:Rws},E6 u0 c' kv Q->∀j,j<4->j≠i->∀g,(kv j).ownBlock=some g->(kvs ao' cap' R' i).ownBlock≠some g:=fun {kv Q} hQ j hj dD g e e'=>by
  have:=(hQ j hj).2 g e
  simp_all
 have newRow:(u2.setCell (qA S i) (.slice a ((R' i).length+1) cp)).ownsRow 0 88 8 (.slice a ((R' i).length+1) cp) ((R' i).length+1) (cellsOf (R' i++ [o])):=by
  rw [hcells];exact oZ hown (fun g e=>K3.block g (hown.lt g e).2 (fun e'=>zM))
 have upI:upR R' i (R' i++ [o]) i=R' i++ [o]:=if_pos rfl
 have upJ:∀j,j≠i->upR R' i (R' i++ [o]) j=R' j:=fun j e=>if_neg e
 refine ⟨fun j=>if j=i then a else ao' j,fun j=>if j=i then cp else cap' j,dO,?_,?_,?_,?_,?_,?_,?_,?_,?_,?_,?_,?_,?_⟩
 ·refine ((h.L5.then ((m7.refl (fun _=>False) u0).alloc ob) (fun _ _ e=>e.elim)).then K2 (fun q hq e=> ?_)).then K3 (fun q hq e=>zj)
  have:=(hg10 q e.symm).2;have:=h.B9 q hq;omega
 ·intro q hq;rw [gU q (uY hq h.L5.size)];exact h.B9 q hq
 ·have hb2:=(K2.block S zj (fun e=>gS e.symm)).trans (uT u0 ob S hSl);have hset:=heap_setCell_same u2 S i _ _ (.slice a ((R' i).length+1) cp) (hb2.trans h.F9)
  grind [I5,upR]
 ·rw [aaN (S+1) hne zj gS1];exact h.res
 ·grind
 ·intro j hj;by_cases dD:j=i
  ·subst dD;by_cases bQ:∃g,(kvs ao cap R j).ownBlock=some g/\(kvs ao' cap' R' j).ownBlock=some g
   ·obtain ⟨g,e1,e2⟩:=bQ;have hq:=h.X9 j hj;refine ⟨?_,fun g' e'=>zM⟩;obtain ⟨tt,ht⟩:=(h.aba j hj).1;have hcap:=(h.aba j hj).2 g e1 e2
    rcases av with ⟨g',cp',e3,e4⟩ | ⟨e3,hg3⟩
    ·have e5:g'=g:=by rw [e3] at e2;exact Option.some.inj e2
     subst e5
     have e6:a=some (qB g')/\cp=cp':=⟨(Value.slice.inj e4).1,(Value.slice.inj e4).2.2⟩
     have e7:=(Value.slice.inj e3).2.2
     rcases hq.1.2 with ⟨q1,_⟩ | ⟨g2,cap2,cur2,q1,_⟩
     ·rw [q1] at e1;cases e1
     have e8:g2=g':=by rw [q1] at e1;exact Option.some.inj e1
     subst e8;have e9:=(Value.slice.inj q1).2.2
     grind [Ih]
    refine oZ hq.1 (fun g' e'=> ?_);have ce:=(hq.1.lt g' e').2;have K2':=lS hg3;rw [K3.block g' zj (fun e5=>zM),K2'.block g' zj (fun e5=>by cases e5)];exact uT u0 ob g' ce
   exact dP h.X9 j hj (fun g e1 e2=>bQ ⟨g,e1,e2⟩)
  exact dP h.X9 j hj (apart h.X9 j hj dD)
 ·intro j hj;by_cases dD:j=i
  ·grind [kvs,upR]
  have e1:kvs (fun q=>if q=i then a else ao' q) (fun q=>if q=i then cp else cap' q) (upR R' i (R' i++ [o])) j=kvs ao' cap' R' j:=by
   unfold kvs;rw [upJ j dD];simp [dD]
  rw [e1,upJ j dD];exact dP h.GA j hj (apart h.GA j hj dD)
 ·intro j hj;by_cases dD:j=i
  ·subst dD;obtain ⟨tt,ht⟩:=(h.aba j hj).1;refine ⟨⟨tt++ [o],by rw [upI,ht];simp⟩,fun g e1 e2=> ?_⟩
   have e3:(Value.slice a ((R' j).length+1) cp).ownBlock=some g:=by
    unfold kvs at e2;rw [upI] at e2;simpa using e2
   have ce:=((h.X9 j hj).1.lt g e1).2;simp only [if_true]
   rcases av with ⟨g',cp',e4,e5⟩ | ⟨e4,_⟩
   ·have e6:g'=g:=by rw [e5] at e3;exact Option.some.inj e3
    subst e6;rw [(Value.slice.inj e5).2.2,(h.aba j hj).2 g' e1 (by rw [e4];rfl)];exact (Value.slice.inj e4).2.2
   grind
  obtain ⟨tt,ht⟩:=(h.aba j hj).1;refine ⟨⟨tt,by rw [upJ j dD,ht]⟩,fun g e1 e2=> ?_⟩;simp only [if_neg dD];refine (h.aba j hj).2 g e1 ?_
  grind [kvs]
 ·rcases h.ops with q | ⟨blk,off,e,q⟩
  ·exact .inl q
  refine .inr ⟨blk,off,e,fun j u hj=> ?_⟩;have hcell:=q j u hj;have cG:=uP u0 (qA blk (off+j)) hcell;obtain ⟨f1,f2⟩:=h.acb _ e
  grind [uV]
 ·intro a' e;obtain ⟨f1,f2⟩:=h.acb a' e;refine ⟨?_,f2⟩;obtain ⟨blk,off,e2,hc2⟩:=h.ops.e hx;rw [e] at e2
  cases e2
  have cG:=uP u0 (qA blk (off+k*8+0)) (hc2 0 _ rfl)
  simp_all
 ·rw [h.go,Yg hkl,(uK.1 hx).2,oD,hbt,if_pos hnum]
 ·grind
 intro j hj;have:=h.y9 j hj
 grind
def zai(ad:qF)(w:qW)(c:Nat->Nat)(ao:Nat->Option Addr)(cap:Nat->Nat)(R:Rws)(F:qX)(e:Ending)(w':qW):Prop:=∃c',m7 (fun k=>10<=c k/\c k<14) w w'/\(∀k,k<w.heap.size->c' k=c k)/\E6 w' c' (kvs ao cap R) R/\
 match oD R true F with
 | none=>e= .returned (.tuple #[.agg #[qE,qE,qE,qE],eV ad 9])
 | some (R',false)=>e= .returned (.tuple #[.agg #[qE,qE,qE,qE],eV ad 3])
 | some (R',true)=>∃ao' cap',e=qT #[kV ao' cap' R',.nilIface]/\E6 w' c' (kvs ao' cap' R') R'
theorem Tm{B}{ad}(w)(c)(ao)(cap)(R)(fa0)(fc0)(fresh)(hE:F1 B ad w)(hB:∀k,c k≠0->B<=k)(hR:E6 w c (kvs ao cap R) R)(ar:F2 w fa0 fresh)(dC:∀x∈fresh,mz x=0)(hcw:∀k,w.heap.size<=k->c k=0)(hn:fresh.length<=1000)(hl:∀i,i<4->(R i).length+fresh.length<=1000):
  qC 155 #[kV ao cap R,.slice fa0 fresh.length fc0] w fun e w'=>∃F:List OpX,F.Perm fresh/\F.Pairwise (fun a b=>mB a<=mB b)/\zai ad w c ao cap R F e w':=by
 obtain ⟨S,hS⟩:=za w.heap.size;obtain ⟨U,hU⟩:=za ((w.alloc (.cells #[.slice (ao 0) (R 0).length (cap 0),.slice (ao 1) (R 1).length (cap 1),.slice (ao 2) (R 2).length (cap 2),.slice (ao 3) (R 3).length (cap 3)] 138)).alloc (.cells #[qE,qE,qE,qE] 138));have hb:qL w U:=zP;have hk:I5 U S ao cap R:=yb
 have hr:U.heap[S+1]? =some (.cells #[qE,qE,qE,qE] 138 (0,0)):=by
  rw [hU,hS];have:=heap_alloc_new (w.alloc (.cells #[.slice (ao 0) (R 0).length (cap 0),.slice (ao 1) (R 1).length (cap 1),.slice (ao 2) (R 2).length (cap 2),.slice (ao 3) (R 3).length (cap 3)] 138)) (.cells #[qE,qE,qE,qE] 138);exact kc7
 obtain ⟨V,hV⟩:=za (U.alloc (.cells #[.slice fa0 fresh.length fc0] 136))
 have ai:qL U V:=by rw [hV];exact zh U _
 have bN:V.heap[U.heap.size]? =some (.cells #[.slice fa0 fresh.length fc0] 136 (0,0)):=xD
 obtain ⟨g,off,aH,hg,hI⟩:∃g off,(fresh= []\/fa0=some (qA g off))/\g<V.heap.size/\U5 V g off fresh:=by
  rcases (ar.later hb).later ai with h | ⟨g,off,e,h⟩
  ·exact ⟨U.heap.size,0,.inl h,(uN.1 bN).1,fun j u hj=>by rw [h] at hj;simp [cellsOf] at hj⟩
  by_cases hf:fresh= []
  ·exact ⟨U.heap.size,0,.inl hf,(uN.1 bN).1,fun j u hj=>by rw [hf] at hj;simp [cellsOf] at hj⟩
  refine ⟨g,off,.inr e,?_,h⟩;obtain ⟨x,t,rfl⟩:=List.exists_cons_of_ne_nil hf;exact uP V (qA g (off+0)) (h 0 (qI x.1) rfl)
 have ac:=EG V U.heap.size g off fc0 fa0 fresh hn aH (uN.1 bN).1 hg (by simp [World.cell?,bN]) hI
 have H0:Aside (I5 V S ao cap R/\V.heap[S+1]? =some (.cells #[qE,qE,qE,qE] 138 (0,0))/\qL w V/\S=w.heap.size):=⟨hk.later ai,(ai.block _ (uN.1 hr).1).trans hr,zi hb ai,hS⟩
 have HE:Aside (F1 B ad w/\E6 w c (kvs ao cap R) R/\∀k,c k≠0->B<=k):=⟨hE,hR,hB⟩
 have HV:Aside (V=U.alloc (.cells #[.slice fa0 fresh.length fc0] 136)):=hV;clear hb hk hr ai bN aH hg hI hE hR hB ar hV;unfold kV;go_enter func155,ntmps155;go_wp2_with fail;rw [<-hU,<-hS];clear hU hS;refine (Mc _ _ _ _).mono ?_;rintro e w' ⟨rfl,hw'⟩;rw [<-HV.o] at hw';subst hw';go_wp2_with fail;refine ac.mono ?_;rintro e w1 ⟨fa,fc,F,rfl,hp,hpw,hF,hfa,hb1⟩;have hFl:=hp.length_eq
 have H1:Aside (K6 w S c ao cap R fa F 0 ao cap R true c w1/\F.Perm fresh/\F.Pairwise (fun a b=>mB a<=mB b)):=by
  have cu:=zi H0.o.2.2.1 hb1;have fj:=(uN.1 H0.o.2.1).1;refine ⟨⟨(lW cu).mono (fun k hk e=>zj),fun _ _=>rfl,H0.o.1.later hb1,(hb1.block _ fj).trans H0.o.2.1,⟨hcw _ yV,hcw _ yV,H0.o.2.2.2⟩,HE.o.2.1.kept (fun i _=>⟨fun k hk _=>cu.block k hk,fun _ _=>rfl⟩),HE.o.2.1.kept (fun i _=>⟨fun k hk _=>cu.block k hk,fun _ _=>rfl⟩),fun i _=>⟨⟨[],zq⟩,fun _ _ _=>rfl⟩,hF,fun a e=>⟨hcw _ (uQ H0.o.2.2.1.size (hfa a e)),by have:=hfa a e;omega⟩,rfl,uY fj hb1.size,fun i _=>uM _⟩,hp,hpw⟩
 rw [<-hFl]
 have jp:∀x∈F,mz x=0:=fun x hx=>dC x (hp.mem_iff.1 hx)
 have hnF:F.length<=1000:=zj
 have hlF:∀i,i<4->(R i).length+F.length<=1000:=fun i hi=>by have:=hl i hi;omega
 go_wp2;go_loopg [7,16] F.length (fun kx s7 s16 wr=>∃(k:Nat) (ao':Nat->Option Addr) (cap':Nat->Nat) (R':Rws) (z:Bool) (c':Nat->Nat),s16=qN k/\s7= .bool z/\k<=F.length/\F.length - k<=kx/\Aside (K6 w S c ao cap R fa F k ao' cap' R' z c' wr))
 case atStart=>exact ⟨0,ao,cap,R,true,c,rfl,rfl,uW _,uM _,H1.o.1⟩
 case round=>
  obtain ⟨k,ao',cap',R',z,c',rfl,rfl,hkl,aY,A⟩:=hrel;by_cases hlt:k<F.length
  ·have d1:qlt k F.length=true:=by simp;omega
   have wk:((k:Int)).toNat=k:=zj;have pk:(0:Int)<=(k:Int):=zj;have bk:(k:Int)<(F.length:Int):=zj
   obtain ⟨⟨t,b,n,kd,nd,o,s,v⟩,hx⟩:∃x,Aside (F[k]? =some x):=⟨F[k],uL hlt⟩
   have cF:Aside (F.drop k=(t,b,n,kd,nd,o,s,v)::F.drop (k+1)):=by
    show F.drop k=_
    exact kp1
   have aF:=jp _ (uR hx.o);obtain ⟨i,hi,hbi,hbt⟩:=Ab aF;have hbi:b=(i:Int):=hbi;subst hbi;have wi:((i:Int)).toNat=i:=zj;have pi:(0:Int)<=(i:Int):=zj;have bi:(i:Int)<4:=zj;obtain ⟨blk,off,aH,hc⟩:=A.o.ops.e hx.o;subst aH;have r0:=hc 0 _ rfl;have r1:=hc 1 _ rfl;have r2:=hc 2 _ rfl;have r3:=hc 3 _ rfl;have r4:=hc 4 _ rfl;have r5:=hc 5 _ rfl;have r6:=hc 6 _ rfl;have r7:=hc 7 _ rfl;simp only [ZG] at r0;obtain ⟨P,hP⟩:=za wr.heap.size;obtain ⟨U1,hU1⟩:=za (wr.alloc (qOc t (i:Int) n kd nd o s v))
   have ah:qL wr U1:=by rw [hU1];exact zh wr _
   have H2:Aside (K6 w S c ao cap R (some (qA blk off)) F k ao' cap' R' z c' U1/\m6 U1 P (t,(i:Int),n,kd,nd,o,s,v)/\P=wr.heap.size):=⟨A.o.later ah,by rw [hU1,hP];exact m6.GA wr (t,(i:Int),n,kd,nd,o,s,v),hP⟩
   have HU:Aside (U1=wr.alloc (qOc t (i:Int) n kd nd o s v)/\P=wr.heap.size):=⟨hU1,hP⟩
   have hlen:(R' i).length<=1000:=by
    have:=hlF i hi;have:=A.o.y9 i hi;omega
   clear ah hU1 hP;go_upto_region 6 with fail;rw [<-HU.o.1,<-HU.o.2];obtain ⟨y0,y1,y2,y3,y4,y5,y6,y7,f8⟩:=m6.ct H2.o.2.1;have kb:=H2.o.1.F9.at hi;obtain ⟨ln,fu⟩:=za ((R' i).length);rw [<-fu] at kb hlen;have HL0:Aside (ln=(R' i).length):=fu;clear fu;by_cases dJ:n=(ln:Int)+1
   ·have dn:(n !=(ln:Int)+1)=false:=by simp [dJ]
    have HNN:Aside (n=(ln:Int)+1):=dJ;clear dJ;go_wp2_with fail
    cases bW:(R' i).getLast? with
    | none=>
     have h0:=List.getLast?_eq_none_iff.1 bW
     have HR:Aside (rJ (R' i) (t,(i:Int),n,kd,nd,o,s,v)=true):=by
      show rJ _ _=true
      unfold rJ;rw [bW]
     obtain rfl:ln=0:=by rw [HL0.o,h0];rfl
     have dt:Aside ((R' i).length=0):=HL0.o.symm;have HP:Aside (P=wr.heap.size):=HU.o.2;clear bW h0;refine wp_region_quiet_grown zk zk ?_
     repeat (go_big_quiet_step (fail))
     refine wpQuiet_nil ?_;intro _ hw';obtain ⟨⟨nq,osq⟩,eu⟩:=hw';change _=grow (U1.drewN nq) osq at eu;subst eu
     have H3:Aside (K6 w S c ao cap R (some (qA blk off)) F k ao' cap' R' z c' (grow (U1.drewN nq) osq)/\m6 (grow (U1.drewN nq) osq) P (t,(i:Int),n,kd,nd,o,s,v)):=⟨H2.o.1.later (mJ ⟨nq,osq,rfl⟩),H2.o.2.1.later (mJ ⟨nq,osq,rfl⟩)⟩
     generalize grow (U1.drewN nq) osq=u0 at H3 |-
     clear H2 y0 y1 y2 y3 y4 y5 y6 y7 f8 kb;obtain ⟨y0,y1,y2,y3,y4,y5,y6,y7,f8⟩:=m6.ct H3.o.2;have kN:=H3.o.2.lt;have kb:=H3.o.1.F9.at hi;rw [dt.o] at kb;have kf:=H3.o.1.F9.fz i;have hSl:=H3.o.1.F9.lt;obtain ⟨i0,dY,aD,aw,aJ⟩:=info_parts rD;obtain ⟨v',u2,ae,hown,ag,av⟩:=rX (P:=prog) (u0.alloc (qOc t (i:Int) n kd nd o s v)).drew 0 136 136 88 i0 _ 8 80 underlying136 dY aD aw aJ rfl zj (.slice (ao' i) (0) (cap' i)) (0) (cellsOf (R' i)) (by have:=(H3.o.1.GA i hi).1.alloc (qOc t (i:Int) n kd nd o s v);unfold kvs at this;rw [dt.o] at this;exact this) (qB u0.heap.size) 1 1 zj (nD (t,(i:Int),n,kd,nd,o,s,v)) rfl (pU u0 (t,(i:Int),n,kd,nd,o,s,v) _) (oY _) zB zj (uW _);obtain ⟨va,vc,rfl⟩:=mC hown
     have ag:(u0.alloc (qOc t (i:Int) n kd nd o s v)).grownBy u2 (Value.slice (ao' i) (0) (cap' i)).ownBlock:=⟨ag.os,ag.tape,ag.output,ag.size,ag.block⟩
     have iz:∀g,(kvs ao' cap' R' i).ownBlock=some g->g<P/\g≠S:=fun g hg=>⟨yR,fun e=>yJ⟩
     have K2:=lS ag
     have bY:(Value.slice (ao' i) (0) (cap' i)).ownBlock=(kvs ao' cap' R' i).ownBlock:=by unfold kvs;rw [dt.o]
     have kbU:∀o,(u0.alloc o).cell? (qA S i)=some (.slice (ao' i) (0) (cap' i)):=fun o=>(uV (a:=(qA S i)) (uT u0 o S hSl)).trans kb
     have aN:=K2.size;have hSP:S<P:=xA;have bS:=(K2.block S zl (fun e=>qQ)).trans (uT u0 _ S hSl);have bP:=(K2.block P zl (fun e=>qy)).trans (uT u0 _ P kN);have kb2:=(uV (a:=(qA S i)) bS).trans kb;have kf2:=(World.frozen?_of_block (a:=(qA S i)) bS).trans kf;have PU:m6 (u0.alloc (qOc t (i:Int) n kd nd o s v)) P (t,(i:Int),n,kd,nd,o,s,v):=(uT u0 _ P kN).trans H3.o.2;have P2:m6 u2 P (t,(i:Int),n,kd,nd,o,s,v):=bP.trans H3.o.2
     have HNX:Aside (∃ao'' cap'' dO,K6 w S c ao cap R (some (qA blk off)) F (k+1) ao'' cap'' (upR R' i (R' i++ [(t,(i:Int),n,kd,nd,o,s,v)])) (z &&rJ (R' i) (t,(i:Int),n,kd,nd,o,s,v)) dO (u2.setCell (qA S i) (.slice va ((0)+1) vc))):=by
      refine H3.o.1.next hi hbt hx.o xU (ob:=.cells (qOa t (i:Int) n kd nd o s v) 88) vj vQ ?_
      rcases av with ⟨g,cp,e1,e2⟩ | e
      ·exact .inl ⟨g,cp,by unfold kvs;rw [dt.o];exact e1,by rw [dt.o];exact e2⟩
      exact kj4
     clear hown ag av K2 bY bS bP iz aN;go_wp2_with fail;refine nT (S:=(fun w'=>m6 w' P (t,(i:Int),n,kd,nd,o,s,v))) (z:=8) zk H3.o.2 (fun aa=> ?_);refine lX (i:=0) (v:= ?va0) zo rfl zk zk zk (fun _ _ _ h=>h) (Or.inl ⟨zt,?hy0⟩) aa ?rest0
     case hy0=>(intro w' _;go_simp;try with_reducible rfl)
     simp only [Act.put,uX,Zg,Zh];refine lX (i:=1) (v:= ?va1) zo rfl zk zk zk (fun _ _ _ h=>h) (Or.inl ⟨zt,?hy1⟩) aa ?rest1
     case hy1=>(intro w' _;go_simp;try with_reducible rfl)
     simp only [Act.put,uX,Zg,Zh];refine mS (i:=2) (v:= ?va2) zo zk rfl zk zk zk zk (fun _ _ _ h=>h) (Or.inl ⟨zt,?hy2⟩) aa ?rest2
     case hy2=>(intro w' ab;obtain ⟨j0,j1,j2,j3,j4,j5,j6,j7,-⟩:=ab.cells;dsimp only at j0 j1 j2 j3 j4 j5 j6 j7;go_simp;try with_reducible rfl)
     simp only [Act.put,uX,Zg,Zh];refine lX (i:=3) (v:= ?va3) zo rfl zk zk zk (fun _ _ _ h=>h) (Or.inl ⟨zt,?hy3⟩) aa ?rest3
     case hy3=>(intro w' _;go_simp;try with_reducible rfl)
     simp only [Act.put,uX,Zg,Zh];refine mS (i:=4) (v:= ?va4) zo zk rfl zk zk zk zk (fun _ _ _ h=>h) (Or.inl ⟨zt,?hy4⟩) aa ?rest4
     case hy4=>(intro w' ab;obtain ⟨j0,j1,j2,j3,j4,j5,j6,j7,-⟩:=ab.cells;dsimp only at j0 j1 j2 j3 j4 j5 j6 j7;go_simp;try with_reducible rfl)
     simp only [Act.put,uX,Zg,Zh];refine mY (i:=5) zk rfl (fun K hK=> ?_);go_simp;refine hK _ _ (.inl PU) ?_;clear hK K aa;refine mY (i:=6) zk rfl (fun K hK=> ?_);rw [if_pos zt];simp only [ZU,ZZ,Ya];refine Lib.wp_append_run _ _ _ _ _ rfl (.slice (ao' i) (0) (cap' i)) (qG u0.heap.size 1 1) ?ahs ?ahx _ u2 ae ?_
     case ahs=>rfl
     case ahx=>rfl
     refine hK _ _ (.inl P2) ?_;clear hK K;refine qn ?_;refine lX (i:=7) (v:= ?va7) zo rfl zk zk zk (fun _ _ _ h=>h) (Or.inl ⟨zt,?hy7⟩) P2 ?rest7
     case hy7=>(intro w' _;go_simp;try with_reducible rfl)
     refine qn ?_;refine mY (i:=8) zk rfl (fun K hK=> ?_);go_simp;refine hK _ _ (.inr ⟨rfl,zo⟩) ?_;clear hK K;refine ma zk ?_ _;obtain ⟨ao'',cap'',dO,HW⟩:=HNX.o;go_wp2;go_roundg (F.length - (k+1))
     case measure=>omega
     case rel=>exact ⟨k+1,ao'',cap'',_,_,dO,zJ,by rw [HR.o];simp,zj,uM _,HW⟩
    | some y=>
     obtain ⟨t',b',n',kd',nd',oo',s',v2⟩:=y
     have hy:(R' i)[(R' i).length - 1]? =some (t',b',n',kd',nd',oo',s',v2):=by rw [<-List.getLast?_eq_getElem?];exact bW
     have hyl:=(uK.1 hy).1
     obtain ⟨m,rfl⟩:∃m,ln=m+1:=⟨ln - 1,by have:=HL0.o;omega⟩
     have dt:Aside ((R' i).length=m+1):=HL0.o.symm
     have em:(R' i).length - 1=m:=by have:=HL0.o;omega
     rw [em] at hy;have HP:Aside (P=wr.heap.size):=HU.o.2;obtain ⟨g2,o2,hao2,hc2⟩:=((D7.r H2.o.1.GA) i hi).e hy;have q0':U1.cell? (qA g2 (o2+m*8))=some (qI t'):=hc2 0 _ rfl;have q0:=rN q0';have q1':U1.cell? (qA g2 (o2+m*8+1))=some (qI b'):=hc2 1 _ rfl;have q1:=rN q1';have p0:=rN y0;have p1:=rN y1;have lh:Aside (ao' i=some (qA g2 o2)):=hao2
     have cP:Aside (rJ (R' i) (t,(i:Int),n,kd,nd,o,s,v)=pY t' b' t (i:Int)):=by
      show rJ _ _=_
      unfold rJ;rw [bW];exact (CK (t',b') (t,(i:Int))).symm
     have e1:(((m+1:Nat):Int) - 1)=(m:Int):=zj;have e2:((m:Int)).toNat=m:=zj;rw [hao2];clear bW hy hyl em hc2 hao2 q0' q1'
     cases jZ:pY t' b' t (i:Int) with
     | true=>
      have HZ:Aside (pY t' b' t (i:Int)=true):=jZ;have HR:Aside (rJ (R' i) (t,(i:Int),n,kd,nd,o,s,v)=true):=cP.o.trans jZ;clear jZ;refine wp_region_quiet_grown zk zk ?_
      repeat (go_big_quiet_step (first | (go_at_call 218;refine Calls.grown_of (tR _ _ _ _ true _ HZ.o))))
      refine wpQuiet_nil ?_;intro _ hw';obtain ⟨⟨nq,osq⟩,eu⟩:=hw';change _=grow (U1.drewN nq) osq at eu;subst eu
      have H3:Aside (K6 w S c ao cap R (some (qA blk off)) F k ao' cap' R' z c' (grow (U1.drewN nq) osq)/\m6 (grow (U1.drewN nq) osq) P (t,(i:Int),n,kd,nd,o,s,v)):=⟨H2.o.1.later (mJ ⟨nq,osq,rfl⟩),H2.o.2.1.later (mJ ⟨nq,osq,rfl⟩)⟩
      generalize grow (U1.drewN nq) osq=u0 at H3 |-
      clear H2 q0 q1 p0 p1 y0 y1 y2 y3 y4 y5 y6 y7 f8 kb;obtain ⟨y0,y1,y2,y3,y4,y5,y6,y7,f8⟩:=m6.ct H3.o.2;have kN:=H3.o.2.lt;have kb:=H3.o.1.F9.at hi;rw [dt.o,lh.o] at kb;have kf:=H3.o.1.F9.fz i;have hSl:=H3.o.1.F9.lt;obtain ⟨i0,dY,aD,aw,aJ⟩:=info_parts rD;obtain ⟨v',u2,ae,hown,ag,av⟩:=rX (P:=prog) (u0.alloc (qOc t (i:Int) n kd nd o s v)).drew 0 136 136 88 i0 _ 8 80 underlying136 dY aD aw aJ rfl zj (.slice (some (qA g2 o2)) (m+1) (cap' i)) (m+1) (cellsOf (R' i)) yL (qB u0.heap.size) 1 1 zj (nD (t,(i:Int),n,kd,nd,o,s,v)) rfl (pU u0 (t,(i:Int),n,kd,nd,o,s,v) _) (oY _) zB zj (uW _);obtain ⟨va,vc,rfl⟩:=mC hown
      have ag:(u0.alloc (qOc t (i:Int) n kd nd o s v)).grownBy u2 (Value.slice (some (qA g2 o2)) (m+1) (cap' i)).ownBlock:=⟨ag.os,ag.tape,ag.output,ag.size,ag.block⟩
      have iz:∀g,(kvs ao' cap' R' i).ownBlock=some g->g<P/\g≠S:=fun g hg=>⟨yR,fun e=>yJ⟩
      have K2:=lS ag
      have bY:(Value.slice (some (qA g2 o2)) (m+1) (cap' i)).ownBlock=(kvs ao' cap' R' i).ownBlock:=by unfold kvs;rw [dt.o,lh.o]
      have kbU:∀o,(u0.alloc o).cell? (qA S i)=some (.slice (some (qA g2 o2)) (m+1) (cap' i)):=fun o=>(uV (a:=(qA S i)) (uT u0 o S hSl)).trans kb
      have aN:=K2.size;have hSP:S<P:=xA;have bS:=(K2.block S zl (fun e=>qQ)).trans (uT u0 _ S hSl);have bP:=(K2.block P zl (fun e=>qy)).trans (uT u0 _ P kN);have kb2:=(uV (a:=(qA S i)) bS).trans kb;have kf2:=(World.frozen?_of_block (a:=(qA S i)) bS).trans kf;have PU:m6 (u0.alloc (qOc t (i:Int) n kd nd o s v)) P (t,(i:Int),n,kd,nd,o,s,v):=(uT u0 _ P kN).trans H3.o.2;have P2:m6 u2 P (t,(i:Int),n,kd,nd,o,s,v):=bP.trans H3.o.2
      have HNX:Aside (∃ao'' cap'' dO,K6 w S c ao cap R (some (qA blk off)) F (k+1) ao'' cap'' (upR R' i (R' i++ [(t,(i:Int),n,kd,nd,o,s,v)])) (z &&rJ (R' i) (t,(i:Int),n,kd,nd,o,s,v)) dO (u2.setCell (qA S i) (.slice va ((m+1)+1) vc))):=by
       refine H3.o.1.next hi hbt hx.o xU (ob:=.cells (qOa t (i:Int) n kd nd o s v) 88) vj vQ ?_
       rcases av with ⟨g,cp,e1,e2⟩ | e
       ·exact kn0
       exact kj4
      clear hown ag av K2 bY bS bP iz aN;go_wp2_with fail;refine nT (S:=(fun w'=>m6 w' P (t,(i:Int),n,kd,nd,o,s,v))) (z:=8) zk H3.o.2 (fun aa=> ?_);refine lX (i:=0) (v:= ?vaT0) zo rfl zk zk zk (fun _ _ _ h=>h) (Or.inl ⟨zt,?hyT0⟩) aa ?restT0
      case hyT0=>(intro w' _;go_simp;try with_reducible rfl)
      simp only [Act.put,uX,Zg,Zh];refine lX (i:=1) (v:= ?vaT1) zo rfl zk zk zk (fun _ _ _ h=>h) (Or.inl ⟨zt,?hyT1⟩) aa ?restT1
      case hyT1=>(intro w' _;go_simp;try with_reducible rfl)
      simp only [Act.put,uX,Zg,Zh];refine mS (i:=2) (v:= ?vaT2) zo zk rfl zk zk zk zk (fun _ _ _ h=>h) (Or.inl ⟨zt,?hyT2⟩) aa ?restT2
      case hyT2=>(intro w' ab;obtain ⟨j0,j1,j2,j3,j4,j5,j6,j7,-⟩:=ab.cells;dsimp only at j0 j1 j2 j3 j4 j5 j6 j7;go_simp;try with_reducible rfl)
      simp only [Act.put,uX,Zg,Zh];refine lX (i:=3) (v:= ?vaT3) zo rfl zk zk zk (fun _ _ _ h=>h) (Or.inl ⟨zt,?hyT3⟩) aa ?restT3
      case hyT3=>(intro w' _;go_simp;try with_reducible rfl)
      simp only [Act.put,uX,Zg,Zh];refine mS (i:=4) (v:= ?vaT4) zo zk rfl zk zk zk zk (fun _ _ _ h=>h) (Or.inl ⟨zt,?hyT4⟩) aa ?restT4
      case hyT4=>(intro w' ab;obtain ⟨j0,j1,j2,j3,j4,j5,j6,j7,-⟩:=ab.cells;dsimp only at j0 j1 j2 j3 j4 j5 j6 j7;go_simp;try with_reducible rfl)
      simp only [Act.put,uX,Zg,Zh];refine mY (i:=5) zk rfl (fun K hK=> ?_);go_simp;refine hK _ _ (.inl PU) ?_;clear hK K aa;refine mY (i:=6) zk rfl (fun K hK=> ?_);rw [if_pos zt];simp only [ZU,ZZ,Ya];refine Lib.wp_append_run _ _ _ _ _ rfl (.slice (some (qA g2 o2)) (m+1) (cap' i)) (qG u0.heap.size 1 1) ?ahsT ?ahxT _ u2 ae ?_
      case ahsT=>rfl
      case ahxT=>rfl
      refine hK _ _ (.inl P2) ?_;clear hK K;refine qn ?_;refine lX (i:=7) (v:= ?vaT7) zo rfl zk zk zk (fun _ _ _ h=>h) (Or.inl ⟨zt,?hyT7⟩) P2 ?restT7
      case hyT7=>(intro w' _;go_simp;try with_reducible rfl)
      refine qn ?_;refine mY (i:=8) zk rfl (fun K hK=> ?_);go_simp;refine hK _ _ (.inr ⟨rfl,zo⟩) ?_;clear hK K;refine ma zk ?_ _;obtain ⟨ao'',cap'',dO,HW⟩:=HNX.o;go_wp2;go_roundg (F.length - (k+1))
      case measure=>omega
      case rel=>exact ⟨k+1,ao'',cap'',_,_,dO,zJ,by rw [HR.o];simp,zj,uM _,HW⟩
     | false=>
      have HZ:Aside (pY t' b' t (i:Int)=false):=jZ;have HR:Aside (rJ (R' i) (t,(i:Int),n,kd,nd,o,s,v)=false):=cP.o.trans jZ;clear jZ;refine wp_region_quiet_grown zk zk ?_
      repeat (go_big_quiet_step (first | (go_at_call 218;refine Calls.grown_of (tR _ _ _ _ false _ HZ.o))))
      refine wpQuiet_nil ?_;intro _ hw';obtain ⟨⟨nq,osq⟩,eu⟩:=hw';change _=grow (U1.drewN nq) osq at eu;subst eu
      have H3:Aside (K6 w S c ao cap R (some (qA blk off)) F k ao' cap' R' z c' (grow (U1.drewN nq) osq)/\m6 (grow (U1.drewN nq) osq) P (t,(i:Int),n,kd,nd,o,s,v)):=⟨H2.o.1.later (mJ ⟨nq,osq,rfl⟩),H2.o.2.1.later (mJ ⟨nq,osq,rfl⟩)⟩
      generalize grow (U1.drewN nq) osq=u0 at H3 |-
      clear H2 q0 q1 p0 p1 y0 y1 y2 y3 y4 y5 y6 y7 f8 kb;obtain ⟨y0,y1,y2,y3,y4,y5,y6,y7,f8⟩:=m6.ct H3.o.2;have kN:=H3.o.2.lt;have kb:=H3.o.1.F9.at hi;rw [dt.o,lh.o] at kb;have kf:=H3.o.1.F9.fz i;have hSl:=H3.o.1.F9.lt;obtain ⟨i0,dY,aD,aw,aJ⟩:=info_parts rD;obtain ⟨v',u2,ae,hown,ag,av⟩:=rX (P:=prog) (u0.alloc (qOc t (i:Int) n kd nd o s v)).drew 0 136 136 88 i0 _ 8 80 underlying136 dY aD aw aJ rfl zj (.slice (some (qA g2 o2)) (m+1) (cap' i)) (m+1) (cellsOf (R' i)) yL (qB u0.heap.size) 1 1 zj (nD (t,(i:Int),n,kd,nd,o,s,v)) rfl (pU u0 (t,(i:Int),n,kd,nd,o,s,v) _) (oY _) zB zj (uW _);obtain ⟨va,vc,rfl⟩:=mC hown
      have ag:(u0.alloc (qOc t (i:Int) n kd nd o s v)).grownBy u2 (Value.slice (some (qA g2 o2)) (m+1) (cap' i)).ownBlock:=⟨ag.os,ag.tape,ag.output,ag.size,ag.block⟩
      have iz:∀g,(kvs ao' cap' R' i).ownBlock=some g->g<P/\g≠S:=fun g hg=>⟨yR,fun e=>yJ⟩
      have K2:=lS ag
      have bY:(Value.slice (some (qA g2 o2)) (m+1) (cap' i)).ownBlock=(kvs ao' cap' R' i).ownBlock:=by unfold kvs;rw [dt.o,lh.o]
      have kbU:∀o,(u0.alloc o).cell? (qA S i)=some (.slice (some (qA g2 o2)) (m+1) (cap' i)):=fun o=>(uV (a:=(qA S i)) (uT u0 o S hSl)).trans kb
      have aN:=K2.size;have hSP:S<P:=xA;have bS:=(K2.block S zl (fun e=>qQ)).trans (uT u0 _ S hSl);have bP:=(K2.block P zl (fun e=>qy)).trans (uT u0 _ P kN);have kb2:=(uV (a:=(qA S i)) bS).trans kb;have kf2:=(World.frozen?_of_block (a:=(qA S i)) bS).trans kf;have PU:m6 (u0.alloc (qOc t (i:Int) n kd nd o s v)) P (t,(i:Int),n,kd,nd,o,s,v):=(uT u0 _ P kN).trans H3.o.2;have P2:m6 u2 P (t,(i:Int),n,kd,nd,o,s,v):=bP.trans H3.o.2
      have HNX:Aside (∃ao'' cap'' dO,K6 w S c ao cap R (some (qA blk off)) F (k+1) ao'' cap'' (upR R' i (R' i++ [(t,(i:Int),n,kd,nd,o,s,v)])) (z &&rJ (R' i) (t,(i:Int),n,kd,nd,o,s,v)) dO (u2.setCell (qA S i) (.slice va ((m+1)+1) vc))):=by
       refine H3.o.1.next hi hbt hx.o xU (ob:=.cells (qOa t (i:Int) n kd nd o s v) 88) vj vQ ?_
       rcases av with ⟨g,cp,e1,e2⟩ | e
       ·exact kn0
       exact kj4
      clear hown ag av K2 bY bS bP iz aN;go_wp2_with fail;refine nT (S:=(fun w'=>m6 w' P (t,(i:Int),n,kd,nd,o,s,v))) (z:=8) zk H3.o.2 (fun aa=> ?_);refine lX (i:=0) (v:= ?vaF0) zo rfl zk zk zk (fun _ _ _ h=>h) (Or.inl ⟨zt,?hyF0⟩) aa ?restF0
      case hyF0=>(intro w' _;go_simp;try with_reducible rfl)
      simp only [Act.put,uX,Zg,Zh];refine lX (i:=1) (v:= ?vaF1) zo rfl zk zk zk (fun _ _ _ h=>h) (Or.inl ⟨zt,?hyF1⟩) aa ?restF1
      case hyF1=>(intro w' _;go_simp;try with_reducible rfl)
      simp only [Act.put,uX,Zg,Zh];refine mS (i:=2) (v:= ?vaF2) zo zk rfl zk zk zk zk (fun _ _ _ h=>h) (Or.inl ⟨zt,?hyF2⟩) aa ?restF2
      case hyF2=>(intro w' ab;obtain ⟨j0,j1,j2,j3,j4,j5,j6,j7,-⟩:=ab.cells;dsimp only at j0 j1 j2 j3 j4 j5 j6 j7;go_simp;try with_reducible rfl)
      simp only [Act.put,uX,Zg,Zh];refine lX (i:=3) (v:= ?vaF3) zo rfl zk zk zk (fun _ _ _ h=>h) (Or.inl ⟨zt,?hyF3⟩) aa ?restF3
      case hyF3=>(intro w' _;go_simp;try with_reducible rfl)
      simp only [Act.put,uX,Zg,Zh];refine mS (i:=4) (v:= ?vaF4) zo zk rfl zk zk zk zk (fun _ _ _ h=>h) (Or.inl ⟨zt,?hyF4⟩) aa ?restF4
      case hyF4=>(intro w' ab;obtain ⟨j0,j1,j2,j3,j4,j5,j6,j7,-⟩:=ab.cells;dsimp only at j0 j1 j2 j3 j4 j5 j6 j7;go_simp;try with_reducible rfl)
      simp only [Act.put,uX,Zg,Zh];refine mY (i:=5) zk rfl (fun K hK=> ?_);go_simp;refine hK _ _ (.inl PU) ?_;clear hK K aa;refine mY (i:=6) zk rfl (fun K hK=> ?_);rw [if_pos zt];simp only [ZU,ZZ,Ya];refine Lib.wp_append_run _ _ _ _ _ rfl (.slice (some (qA g2 o2)) (m+1) (cap' i)) (qG u0.heap.size 1 1) ?ahsF ?ahxF _ u2 ae ?_
      case ahsF=>rfl
      case ahxF=>rfl
      refine hK _ _ (.inl P2) ?_;clear hK K;refine qn ?_;refine lX (i:=7) (v:= ?vaF7) zo rfl zk zk zk (fun _ _ _ h=>h) (Or.inl ⟨zt,?hyF7⟩) P2 ?restF7
      case hyF7=>(intro w' _;go_simp;try with_reducible rfl)
      refine qn ?_;refine mY (i:=8) zk rfl (fun K hK=> ?_);go_simp;refine hK _ _ (.inr ⟨rfl,zo⟩) ?_;clear hK K;refine ma zk ?_ _;obtain ⟨ao'',cap'',dO,HW⟩:=HNX.o;go_wp2;go_roundg (F.length - (k+1))
      case measure=>omega
      case rel=>exact ⟨k+1,ao'',cap'',_,_,dO,zJ,by rw [HR.o];simp,zj,uM _,HW⟩
   have e0:=HL0.o;clear HL0;subst e0
   have dn:(n !=((R' i).length:Int)+1)=true:=by simp [dJ]
   have HNN:=Lib.hid dJ;clear dJ;have eg:=(K6.G6 H2.o.1 HE.o.1 HE.o.2.2).c8;have ip:=HE.o.1.low;have hsB:=HE.o.1.size;have ab:=A.o.hS.2.2;have n1:8≠S+1:=zj;have n2:S+1≠8:=zj;have HSw:=Lib.hid ab;clear ab ip hsB
   obtain ⟨z0,z1,z2,z3,zf⟩:U1.cell? (qB (S+1))=some qE/\U1.cell? (qA (S+1) 1)=some qE/\U1.cell? (qA (S+1) 2)=some qE/\U1.cell? (qA (S+1) 3)=some qE/\∀c,U1.frozen? (qA (S+1) c)=false:=by
    have:=H2.o.1.res;exact ko8
   go_wp2_with fail;go_region
   all_goals
    go_wp2;(try simp only [Exit.inBlock,Exit.then]);refine bodyPost_ret (v:=.tuple #[.agg #[qE,qE,qE,qE],eV ad 9]) ?_ rfl ⟨F,H1.o.2.1,H1.o.2.2,?_⟩
    ·rw [pW rfl];unfold eV;go_simp
    have kw:m7 (fun k=>k=S+1) U1 (U1.setCells (S+1) 0 [qE,qE,qE,qE]):=lZ (S+1) _ 0 U1;refine ⟨c',?_,A.o.B9,?_,?_⟩
    ·exact H2.o.1.L5.then kw.drew (fun j hj e=>uB)
    ·exact H2.o.1.X9.kept (fun j hj=>⟨fun q hq hcq=>kw.block q hq (fun e=>qg),fun _ _=>rfl⟩)
    rw [A.o.go,cF.o,oD,hbt,if_neg HNN.o]
  have d1:qlt k F.length=false:=zl
  have iY:Aside (oD R true F=some (R',z)):=by
   have:=A.o.go;rw [YA zj,oD] at this;exact this
  obtain ⟨z0,z1,z2,z3,zf⟩:wr.cell? (qB (S+1))=some qE/\wr.cell? (qA (S+1) 1)=some qE/\wr.cell? (qA (S+1) 2)=some qE/\wr.cell? (qA (S+1) 3)=some qE/\∀c,wr.frozen? (qA (S+1) c)=false:=by
   have:=A.o.res;exact ko8
  have ip:=HE.o.1.low;have hsB:=HE.o.1.size;have ab:=A.o.hS.2.2
  cases z with
  | false=>
   have eg:=(K6.G6 A.o HE.o.1 HE.o.2.2).Q1.c2;have n1:2≠S+1:=zj;have n2:S+1≠2:=zj;have HSw:=Lib.hid ab;clear ab ip hsB;go_wp2_with fail;go_region
   all_goals
    go_wp2;(try simp only [Exit.inBlock,Exit.then]);refine bodyPost_ret (v:=.tuple #[.agg #[qE,qE,qE,qE],eV ad 3]) ?_ rfl ⟨F,H1.o.2.1,H1.o.2.2,?_⟩
    ·rw [pW rfl];unfold eV;go_simp
    have kw:m7 (fun k=>k=S+1) wr (wr.setCells (S+1) 0 [qE,qE,qE,qE]):=lZ (S+1) _ 0 wr;refine ⟨c',?_,A.o.B9,?_,?_⟩
    ·exact A.o.L5.then kw.drew (fun j hj e=>uB)
    ·exact A.o.X9.kept (fun j hj=>⟨fun q hq hcq=>kw.block q hq (fun e=>qg),fun _ _=>rfl⟩)
    rw [iY.o]
  | true=>
   have HSw:=Lib.hid ab;clear ab ip hsB;have k0:=A.o.F9.at (i:=0) zj;have k1:=A.o.F9.at (i:=1) zj;have k2:=A.o.F9.at (i:=2) zj;have k3:=A.o.F9.at (i:=3) zj;go_wp2;(try simp only [Exit.inBlock,Exit.then]);refine bodyPost_ret (v:=.tuple #[kV ao' cap' R',.nilIface]) ?_ rfl ⟨F,H1.o.2.1,H1.o.2.2,?_⟩
   ·rw [pW rfl];unfold kV;go_simp
   have kw:m7 (fun k=>k=S+1) wr (wr.setCells (S+1) 0 [.slice (ao' 0) (R' 0).length (cap' 0),.slice (ao' 1) (R' 1).length (cap' 1),.slice (ao' 2) (R' 2).length (cap' 2),.slice (ao' 3) (R' 3).length (cap' 3)]):=lZ (S+1) _ 0 wr
   have gr:∀j,j<4->EH c' (10+j) wr c' (wr.setCells (S+1) 0 [.slice (ao' 0) (R' 0).length (cap' 0),.slice (ao' 1) (R' 1).length (cap' 1),.slice (ao' 2) (R' 2).length (cap' 2),.slice (ao' 3) (R' 3).length (cap' 3)]):=fun j hj=>⟨fun q hq hcq=>kw.block q hq (fun e=>qg),fun _ _=>rfl⟩
   refine ⟨c',A.o.L5.then kw (fun j hj e=>uB),A.o.B9,A.o.X9.kept gr,?_⟩;rw [iY.o];exact ⟨ao',cap',rfl,A.o.GA.kept gr⟩
end
section
open RowKit Shelf Maps
open scoped Classical
attribute [local go_sem] Oper.semAt_some
def zbQ(f:XK)(ks:List Int):Prop:=ks.Nodup/\∀k,k∈ks↔(f k).isSome=true
def aaA(D:DataW Unit)(f:XK)(left:Lit->Bool)(ks:List Int):Prop:=
 ks.Nodup/\(∀k∈ks,(f k).isSome=true/\left (.int .i64 k)=false)/\∀k,Wf k->has D (.int .i64 k)=true->left (.int .i64 k)=false->k∈ks
theorem It(D)(f):aaA D f (has D) []:=⟨YZ,fun p hp=>by simp at hp,fun k _ h1 h2=>zM⟩
theorem aaA.K8{D}{f}{left}{ks}(h:aaA D f left ks){x}(hl:left (.int .i64 x)=true)(hf:(f x).isSome=true):aaA D f (fun z=>left z && !z.sameKey (.int .i64 x)) (ks++ [x]):=by
 obtain ⟨h1,h2,h3⟩:=h;refine ⟨?_,fun p hp=> ?_,fun k hw hh cq=> ?_⟩
 ·rw [ZM];refine ⟨h1,zq,fun a ha b hb=> ?_⟩;simp only [Zc] at hb;subst hb;intro e;subst e;have:=(h2 _ ha).2;rw [hl] at this
  cases this
 ·rcases uU.1 hp with hp | hp
  ·have:=h2 p hp;exact ⟨this.1,by show (left (.int .i64 p) &&_)=false;rw [this.2];rfl⟩
  simp only [Zc] at hp;subst hp;refine ⟨hf,?_⟩
  show (left (.int .i64 p) && !Lit.sameKey (.int .i64 p) (.int .i64 p))=false
  rw [Bv];simp
 grind [Bv,Zo]
theorem aaA.all{D}{f}{left}{ks}(h:aaA D f left ks)(hr:Q4 D f)(G:XB f)(hl:∀kl,left kl=false):zbQ f ks:=by
 refine ⟨h.1,fun p=>⟨fun hp=>(h.2.1 p hp).1,fun hp=> ?_⟩⟩;obtain ⟨q,hq⟩:=Yl.1 hp;have hw:=G p q hq;exact h.2.2 p hw (by rw [hr.has hw,hp]) (hl _)
theorem Uh(F)(n)(h8:F.fn 181)(cO:F.round=none)(hn:1<=n)(l Bm b nn)(D0)(f)(hr:Q4 D0 f)(G:XB f)(J Jx:List Int->World->Prop)
  (hY:∀pre x W,J pre W->pre.length<nn->YieldAt F (n - 1) prog l #[qI x] W fun e W'=>
   (e= .returned (.bool true)/\J (pre++ [x]) W'/\KeepsWalks W W')\/(e= .returned (.bool false)/\Jx (pre++ [x]) W'))
  (W) (hJ:AbidesFrom W.heap.size J) (hm:W.cell? (qB Bm)=some (.map (some b))) (hown:W.ownsMap prog 3 WI b nn D0) (h0:J [] W):
  CallsIn F n prog 181 #[.func (.yield l) #[] #[],qP Bm] W fun e W'=>(∃v,e= .returned v)/\
   ((∃xs,zbQ f xs/\J xs W')\/(∃pre,True/\Jx pre W')):=by
 refine callsIn_of_wp func181 rfl h8 ?_ cO;simp only [ntmps181,Zn,Zd,Zt,Nat.reduceAdd,Nat.reduceSub,Zx,Zy,ZH,ZC,ZE,ZI];have bO:=hown.size_le
 gi_wp2_with (first
  | (gi_at_range;refine wpListIn_range_own _ rfl _ 133 rfl 3 217 (int_keyed underlying3) underlying133 _ b nn _ rfl hown ?_;intro w0 dX hg0 fP)
  | gi_in)
 go_frame
 gi_loopw [3] (fun _ wr=>∃(left:Lit->Bool) (eW:Nat) (ps:List Int),wr.ranges prog 3 WI b W.heap.size nn D0 left eW/\ps.length+eW<=nn/\aaA D0 f left ps/\J ps wr)
  (fun _ wr=>wr.rangeLeft b W.heap.size)
 case atStart=>
  exact ⟨_,_,[],dX,by simpa using bO,It D0 f,hJ [] W w0 none h0 hg0 (fun r e=>yN)⟩
 case round=>
  obtain ⟨left,eW,ps,fT,hcs,hC,jd⟩:=hrel
  gi_wp2_with (first
   | (gi_at_next;refine wpListIn_next_ranges _ rfl _ rfl 3 (int_keyed underlying3) WI (Value.int .i64) AN (fun T9 kl hk=>ue) (fun v y hv=>by grind [EE]) b W.heap.size nn _ _ _ rfl fT ?_ ?_)
   | gi_in)
  ·exact km3
  intro x c1 kl yd yp w2 bd eL cq hv aI dW hlt hg2 aN iC;obtain ⟨x',ex,rfl,gE⟩:=Maps.keyOf_int_inv underlying3 eL
  obtain rfl:x=x':=by simpa using ex
  have hfx:(f x).isSome=true:=by rw [<-hr.has gE];exact has_true_of_atKey aI
  have hJ2:=hJ ps wr w2 (some W.heap.size) jd hg2 (fun r e=>vK);obtain ⟨fn,tmps,assign,body,hy,hR⟩:=hY ps x _ hJ2 zj;have kS:=hC.K8 cq hfx;have H3:Aside (RoundIn F (n - 1) prog l fn tmps assign body _ _):=hR;gi_wp2;refine RoundIn.mono H3.o ?_;rintro e W3 (⟨rfl,hJ4,hk4⟩ | ⟨rfl,hJx4⟩)
  ·gi_wp2;have dV:=dW.of_walks hk4;go_roundw
   case rel=>exact ⟨_,bd,ps++ [x],dV,zl,kS,hJ4⟩
   case measure=>rw [dV.left_eq,fT.left_eq];exact hlt
  gi_wp2;refine bodyPost_ret (results_none rfl _ _ _) rfl ?_
  grind
theorem Tb(F)(n)(hf:F.fn 131)(cO:F.round=none)(mb)(w):
  CallsIn F n prog 131 #[.map mb] w fun e w'=>e= .returned (.func (.func 181) #[] #[qP w.heap.size])/\w'=w.alloc (.cells #[.map mb] 133):=by
 refine callsIn_of_wp func131 rfl hf ?_ cO;simp only [ntmps131,Zn,Zd,Zt,Nat.reduceAdd,Nat.reduceSub,Zx,Zy,ZH,ZC,ZE,ZI];gi_wp2;go_ret;exact kh6
theorem LH(F)(n)(h8:F.fn 181)(cO:F.round=none)(hn:1<=n)(Bm b nn)(f)(w)(eU:Bm<w.heap.size)(hm:w.cell? (qB Bm)=some (.map (some b)))(hM:I6 w b nn f):
  SeqStopsK F n prog 181 #[qP Bm] (fun x:Int=> #[qI x]) KeepsWalks (fun xs=>zbQ f xs) (fun _=>True) nn w:=fun l J Jx W hW hJ _ hY h0=>by
 have cG:=hM.lt;obtain ⟨⟨D,hown,hr⟩,G⟩:=hM.same (hW.block b cG);exact Uh F n h8 cO hn l Bm b nn D f hr G J Jx hY W hJ ((hW.cell (p:=(qB Bm)) eU).trans hm) hown h0
theorem zd8:(prog.info? 3).map (fun i=>(i.zero,i.size,i.bytes))=some (some (qI 0),1,8):=zk
theorem zag(w:qW)(x)(j)(u)(hj:([Value.int .i64 x]:List Value)[j]? =some u):(w.alloc (.cells #[qI x] 3)).cell? (((qB w.heap.size):Addr).add j)=some u:=by
 simp_all [Addr.add_lit,Ze,heap_alloc_new]
theorem zaE(x):∀u∈([Value.int .i64 x]:List Value),u.oneCell'=true:=xj
def Em(ks:List Int):List Value:=ks.map fun k=>qI k
theorem DI(w)(Bm b nn)(f)(eU:Bm<w.heap.size)(hm:w.cell? ⟨Bm,0,none⟩=some (.map (some b)))(hM:I6 w b nn f)(dJ:nn<=2000000):
  Calls prog 243 #[.slice none 0 0,.func (.func 181) #[] #[.pointer (some ⟨Bm,0,none⟩)]] w fun e w'=>∃v ps,e= .returned v/\zbQ f ps/\ps.length<=nn/\w'.ownsRow w.heap.size 3 1 v ps.length (Em ps)/\Below w.heap.size w w':=by
 obtain ⟨i0,hi,aD,aw,aJ⟩:=info_parts zd8;refine (callsIn_wide (n:=4)).1 ?_;refine callsIn_of_wp_marks func243 rfl trivial ?_ rfl;simp only [ntmps243,Zn,Zd,Zt,Nat.reduceAdd,Nat.reduceSub,Zx,Zy,ZH,ZC,ZE,ZI];gi_wp2;obtain ⟨w1,hw1⟩:=za (w.alloc (.cells #[.slice none 0 0] 35));rw [<-hw1];have cg:Below w.heap.size w w1:=qa;have aG:w1.heap.size=w.heap.size+1:=xY;obtain ⟨B,hB⟩:=za w.heap.size;have e1:Boxed w1 B 35 (.slice none 0 0):=xe
 rw [<-hB] at cg aG eU |-
 have HB:Aside (B=w.heap.size):=hB;have bI:B<=w.heap.size:=zj;clear hB;have hm1:=(cg.cell (p:=⟨Bm,0,none⟩) eU).trans hm;have cM:=hM.same (cg.block b (by have:=HB.o;have:=hM.lt;omega));clear hw1 hm hM
 refine wpIn_rangeFunc_ownH rfl zj (gf:=181) (lb:= #[.pointer (some ⟨Bm,0,none⟩)]) rfl trivial (enters_of func181 zk rfl)
  (LH Fence.wide (4 - 1) trivial rfl zj Bm b nn f w1 zj hm1 cM) walksK_t (walksK_b (w:=w1)) (uO _ _) (fun _=>rfl)
  (fun pre W=>((∃v,Boxed W B 35 v/\W.ownsRow B 3 1 v pre.length (Em pre)/\pre.length<=nn))/\(w1.heap.size<=W.heap.size/\Below B w W))
  (fun _ _ _=>False)
  (OwnFrom.and (Own.from (holdsRow_own B B 35 3 1 (fun pre=>pre.length) (fun pre=>Em pre) (fun pre _=>pre.length<=nn)) _) (OwnFrom.and (fun _ X Y row hs hg _=>uQ hs hg.size) (ownFrom_below zj zj)))
  (fun _ _ _ _ _ hs _ _=>hs)
  ⟨⟨_,e1,Zk w1 B _ _,uW _⟩,uM _,cg⟩
  (fun x a' W=>a'= {tmps:= #[.slice none 0 0,.func (.func 181) #[] #[.pointer (some ⟨Bm,0,none⟩)],.pointer (some ⟨B,0,none⟩),undef,.slice none 0 0,.int .i64 x,.func (.func 181) #[] #[.pointer (some ⟨Bm,0,none⟩)],.int .i64 x,undef,undef,undef,undef,undef],defers:=[]})
  (fun x a'=>Own.from (fun _ X Y row hs hg hr=>hs) _)
  ?assign ?body ?done ?stop
 case assign=>
  rintro l pre x W K ⟨⟨v,hv,hrow,hpl⟩,hsz,hBW⟩ hK;have df:Aside _:=hK;have bN:B<=W.heap.size:=zj;clear hK;gi_wp2;refine df.o _ _ ((KeepsOthers.refl _).from _) (KeepsOthers.refl _).walks ⟨⟨v,hv,hrow,hpl⟩,hsz,hBW⟩ rfl
 case body=>
  rintro l pre x a' W hl _ ⟨⟨v,hv,hrow,hpl⟩,hsz,hBW⟩ rfl hlt;have g1:=hv.cell;have bN:B<=W.heap.size:=zj;gi_wp2_with (gi_at_builtin;refine wpListIn_append_own _ rfl _ _ 35 rfl B 3 i0 _ 1 8 underlying35 hi aD aw aJ rfl zj _ _ _ rfl (hrow.alloc _) ⟨W.heap.size,0,none⟩ 1 1 [.int .i64 x] rfl rfl (zag W x) (zaE x) zB zj zl ?_;intro v' w2 hown' ag _;obtain ⟨g',cap',rfl⟩:=ownsRow_succ hown';obtain ⟨gk,dh,hr2,hk2,hb2⟩:=hv.appended zo hrow bN zg hown' ag;have hc1:=gk.cell;have jD:=gk.frozen);exact ⟨hk2.from _,hk2.walks,⟨⟨_,dh,by rw [uS,ZO];unfold Em at*;rw [Zz];simpa using hr2,zl⟩,uq,hBW.trans hb2⟩⟩
 case done=>
  rintro D ys W hD hall ⟨⟨v,hv,hrow,hpl⟩,hsz,hBW⟩ hK;have g1:=hv.cell;gi_wp2;refine ⟨zq,.inl ⟨_,_,rfl,run_takeDeferred hK,?_⟩⟩;refine ⟨v,by simp [results,f243,go_sem],v,ys,rfl,hall,hpl,?_,?_⟩
  ·exact km4
  exact ke6
 simp_all
theorem DZ(w)(Bm b nn)(f)(eU:Bm<w.heap.size)(hm:w.cell? (qB Bm)=some (.map (some b)))(hM:I6 w b nn f)(dJ:nn<=2000000):
  qC 179 #[.func (.func 181) #[] #[qP Bm]] w fun e w'=>∃v ps,e= .returned v/\zbQ f ps/\ps.length<=nn/\w'.ownsRow w.heap.size 3 1 v ps.length (Em ps)/\qL w w':=by
 have ha:=DI w Bm b nn f eU hm hM dJ;go_enter func179,ntmps179;go_wp2_with fail;refine ha.mono ?_;rintro e w1 ⟨v,ps,rfl,h⟩;have HH:Aside _:=h;go_wp2;go_ret;exact ⟨v,ps,rfl,HH.o⟩
theorem Jj{ks:List Int}(hn:ks.Nodup):(ks.mergeSort fun x y=>decide (x<=y)).Pairwise (· < ·):=by
 have h1:=List.pairwise_mergeSort (le:=fun x y:Int=>decide (x<=y)) (fun a b c h1 h2=>zN) (fun a b=>zN) ks;have h2:(ks.mergeSort fun x y=>decide (x<=y)).Nodup:=(List.mergeSort_perm ks _).nodup_iff.2 hn;exact (h1.and h2).imp (fun {a b} h=>zN)
theorem DF(w)(Bm b nn)(f)(eU:Bm<w.heap.size)(hm:w.cell? (qB Bm)=some (.map (some b)))(hM:I6 w b nn f)(dJ:nn<=100000):
  qC 130 #[.func (.func 181) #[] #[qP Bm]] w fun e w'=>∃v ks,e= .returned v/\ks.Pairwise (· < ·)/\(∀k,k∈ks↔(f k).isSome=true)/\ks.length<=nn/\w'.ownsRow w.heap.size 3 1 v ks.length (Em ks)/\qL w w':=by
 have hc:=DZ w Bm b nn f eU hm hM zj;go_enter func130,ntmps130;go_wp2_with fail;refine hc.mono ?_;rintro e w1 ⟨v,ps,rfl,hall,hpl,hown,hb⟩
 rcases hown.2 with ⟨rfl,h0⟩ | ⟨g,cap,cur,rfl,hbg,hgb,r1,r2,r3,r4⟩
 ·have bg:=Zi.1 h0;subst bg
  have HH:Aside ((∀k,k∈([]:List Int)↔(f k).isSome=true)/\qL w w1):=⟨hall.2,hb⟩
  have hs:=Tryz.slices_Sort_int_none none 0 w1;go_wp2_with fail;refine hs.mono ?_;rintro e w' ⟨rfl,rfl⟩;go_wp2;go_ret;exact ⟨_,[],rfl,List.Pairwise.nil,HH.o.1,uW _,Zk _ _ _ _,HH.o.2⟩
 have hH:=holds_of_blockI hgb (by simpa [Em] using r4);have ce:=(uN.1 hgb).1;have hs:=Tryz.slices_Sort_int g 0 cap ps w1 hH ce zj;have hlen:(ps.mergeSort fun x y=>decide (x<=y)).length=ps.length:=List.length_mergeSort _
 have H1:Aside (∀n os,(Sort.grow (Sort.putRow (Value.int .i64) (Sort.ahead w1 n) g 0 (ps.mergeSort fun x y=>decide (x<=y)).toArray) os).ownsRow w.heap.size 3 1 (qG g ps.length cap) ps.length (Em (ps.mergeSort fun x y=>decide (x<=y)))/\qL w (Sort.grow (Sort.putRow (Value.int .i64) (Sort.ahead w1 n) g 0 (ps.mergeSort fun x y=>decide (x<=y)).toArray) os)):=fun n os=>
  ⟨ownsRow_sortedI hlen hbg hgb r1 r2 r3,hb.grown (grownBy_sortedI _) hb.size (fun j hj=>by cases hj;exact hbg)⟩
 have HH:Aside (zbQ f ps/\ps.length<=nn):=⟨hall,hpl⟩
 have HL:Aside ((ps.mergeSort fun x y=>decide (x<=y)).length=ps.length):=hlen;go_wp2_with fail;refine hs.mono ?_;rintro e w2 ⟨rfl,n,os,rfl⟩;have H2:=H1.o n os
 generalize Sort.grow (Sort.putRow (Value.int .i64) (Sort.ahead w1 n) g 0 (ps.mergeSort fun x y=>decide (x<=y)).toArray) os=w2 at H2 |-
 have H3:Aside _:=H2;go_wp2;go_ret;exact ⟨_,ps.mergeSort fun x y=>decide (x<=y),rfl,Jj HH.o.1.1,fun k=>((List.mergeSort_perm ps _).mem_iff).trans (HH.o.1.2 k),by rw [HL.o];exact HH.o.2,by rw [HL.o];exact H3.o.1,H3.o.2⟩
end
section
open RowKit Shelf Maps
section
variable {P:Program} {ops:Array Oper} {Q:Exit→Act→World→Prop} {md:Region.Mode} {S:World→Prop} {z:Nat}
theorem Iy{i}{o}{fuel}{listed}{a}{w}(hr:Region.ready md ops listed= [i])(ho:ops[i]? =some o)(hz:listed.getD z false=true)
  (h:∀K:Act->World->Prop,(∀a' w',nF P md ops Q S z fuel (listed.setIfInBounds i true) a' w'->K a' w')->if Region.wanted o (yielded ops a.tmps)=true then Oper.wp P o a w K Q else K (a.put o.dst undef) w):nF P md ops Q S z (fuel+1) listed a w:=by
 refine ⟨fun h0=>vm,fun j hj=> ?_⟩;rw [hr] at hj;simp only [Zc] at hj;subst hj;have:=h (fun a' w'=>(S w'\/(listed.setIfInBounds j true).getD z false=true)/\nF P md ops Q S z fuel (listed.setIfInBounds j true) a' w') (fun a' w' h2=>⟨.inr (wS hz),h2⟩);unfold wpOp
 grind
end
theorem zaO:(prog.info? 9).map (fun i=>(i.zero,i.size,i.bytes))=some (some (.string ⟨#[]⟩),1,16):=zk
def MT(ls:List qU):List Value:=ls.map fun l=>.string ⟨l.toArray⟩
theorem Pr(a b):MT (a++b)=MT a++MT b:=Zz
structure P6 (b:Nat) (ls:List qU) (v:Value) (w:qW):Prop where
 F9:Boxed w b 22 v
 row:w.ownsRow (b+1) 9 1 v ls.length (MT ls)
theorem P6.lt{b}{ls}{v}{w}(h:P6 b ls v w):b<w.heap.size:=(uN.1 h.F9).1
theorem P6.later{b}{ls}{v}{w w'}(h:P6 b ls v w)(hb:qL w w'):P6 b ls v w':=
 ⟨(hb.block b h.lt).trans h.F9,mE h.row (fun g hg=>hb.block g (h.row.lt g hg).2)⟩
def JL(b:Nat)(C9:qU)(ls:List qU)(v:Value)(w:qW)(e:Ending)(w':qW):Prop:=
 ∃v',e=qT #[]/\P6 b (ls++ [C9]) v' w'/\m7 (fun k=>k=b\/v.ownBlock=some k) w w'/\∀k,v'.ownBlock=some k->v.ownBlock=some k\/w.heap.size<=k
theorem Li{b}{ls}{v}{w u}(h:P6 b ls v w)(hb:qL w u)(C9)(hls:ls.length<=1000000):
  ∃g cap w',(Builtin.append_ #[22,22] 22 #[v,qG u.heap.size 1 1]).run prog (u.alloc (.cells #[.string ⟨C9.toArray⟩] 9))= .ok (qG g (ls.length+1) cap) w'/\
   w'.cell? (qB b)=some v/\w'.frozen? (qB b)=false/\JL b C9 ls v w (qT #[]) (w'.setCell (qB b) (qG g (ls.length+1) cap)):=by
 obtain ⟨i0,hi,aD,aw,aJ⟩:=info_parts zaO;have hu:=h.later hb;have hlt:=hu.lt
 obtain ⟨v',w',ae,hown,ag,av⟩:=rX (P:=prog) (u.alloc (.cells #[.string ⟨C9.toArray⟩] 9)) (b+1) 22 22 9 i0 _ 1 16 underlying22 hi aD aw aJ rfl zj v ls.length (MT ls) (hu.row.alloc _) (qB u.heap.size) 1 1 zj [.string ⟨C9.toArray⟩] rfl
  (YJ (cs:= #[.string ⟨C9.toArray⟩]) (t:=9) (fr:=(0,0)) (heap_alloc_new u _)) xj zB zj yM
 obtain ⟨g,cap,rfl⟩:=ownsRow_succ hown
 have fN:∀k,v.ownBlock=some k->b+1<=k/\k<w.heap.size:=fun k hk=>h.row.lt k hk
 have hK1:=(((m7.refl (fun k=>v.ownBlock=some k) u).alloc _).trans ((lS ag).mono (fun k _ hk=>by rw [<-hk])))
 have hK2:=((lW hb).mono (fun k hk hle=>absurd hk zj)).trans hK1;have gy:=hK1.block b hlt (fun e=>zN);have bL:Boxed w' b 22 v:=gy.trans hu.F9;refine ⟨g,cap,w',ae,bL.cell,bL.frozen,qG g (ls.length+1) cap,rfl,⟨?_,?_⟩,?_,?_⟩
 ·exact heap_setCell_same w' b 0 _ _ _ bL
 ·rw [uS,ZO,Pr];refine mE hown (fun k hk=> ?_);have hkb:=(hown.lt k hk).1
  grind [Below.heap_setCell]
 ·exact ⟨hK2.os,hK2.tape,hK2.output,by simpa using hK2.size,fun k hk hn=>by
   rw [Below.heap_setCell _ _ _ k (show k≠b from fun e=>hn (.inl e))]
   exact hK2.block k hk (fun e=>hn (.inr e))⟩
 intro k hk
 rcases av with ⟨g1,c1,e1,e2⟩ | ⟨e1,_⟩
 ·cases e2
  subst e1;exact .inl hk
 rw [hk] at e1
 cases e1
 exact .inr (by have:=hb.size;simp;omega)
theorem Lr(nd)(ws):(⟨(Lib.itoa nd).toArray⟩:qY)++⟨#[32]⟩++⟨(Lib.join ws [32]).toArray⟩=⟨(AO nd ws).toArray⟩:=by
 apply ByteArray.ext;simp [AO]
theorem FC(w)(b)(nd)(wb c)(ws:List ByteArray)(ls)(v)(hst:P6 b ls v w)(hw:∀(j:Nat) x,ws[j]? =some x->w.cell? (qA wb (0+j))=some (.string x))(hwb:wb<w.heap.size)(hwc:ws.length<=c)(hws:ws.length<=10)
  (aK:Lib.TabIs prog w "internal/strconv.uint64pow10" .u64 Lib.pow10Tab) (h0: -9223372036854775808<=nd) (h1:nd<=9223372036854775807) (hlen:(Lib.join (ws.map (·.data.toList)) [32]).length<=200000) (hls:ls.length<=1000000):
  qC 128 #[qI nd,qG wb ws.length c,qP b] w (JL b (AO nd (ws.map (·.data.toList))) ls v w):=by
 have HT:Aside (Lib.TabBelow prog w.heap.size w "internal/strconv.uint64pow10" .u64 Lib.pow10Tab):=Lib.tabBelow_of_tabIs aK
 have jY:∀u,qL w u->qC 54 #[qI nd] u (qR (.string ⟨(Lib.itoa nd).toArray⟩) u):=fun u hu=>Bz nd h0 h1 u (HT.o u hu)
 have jX:∀u,qL w u->qC 104 #[qG wb ws.length c,.string ⟨#[32]⟩] u (qR (.string ⟨(Lib.join (ws.map (·.data.toList)) [32]).toArray⟩) u):=fun u hu=>
  Tryz.strings_Join wb 0 c ws ⟨#[32]⟩ u (fun j x hj=>(hu.cell (p:=(qA wb (0+j))) hwb).trans (hw j x hj)) (uY hwb hu.size) zj hwc zN
 have HI:Aside (∀u,qL w u->qC 54 #[qI nd] u (qR (.string ⟨(Lib.itoa nd).toArray⟩) u)):=jY;have HJ:Aside (∀u,qL w u->qC 104 #[qG wb ws.length c,.string ⟨#[32]⟩] u (qR (.string ⟨(Lib.join (ws.map (·.data.toList)) [32]).toArray⟩) u)):=jX;have HS:Aside (P6 b ls v w):=hst;have cL:Aside (qL w w.drew):=(uO _ w).drew;have fG:=(hst.later cL.o).F9.cell;have hLB:=Lr nd (ws.map (·.data.toList))
 have hIL:(Lib.itoa nd).length<=1000:=by have:=Lib.itoa_length_le nd h0 h1;omega
 obtain ⟨jn,iX⟩:=za (Lib.join (ws.map (·.data.toList)) [32]);rw [<-iX] at HJ hLB hlen;obtain ⟨C9,cB⟩:=za (AO nd (ws.map (·.data.toList)))
 rw [<-cB] at hLB |-
 obtain ⟨it,hit⟩:=za (Lib.itoa nd);rw [<-hit] at HI hLB hIL
 obtain ⟨sl,gG⟩:∃sl:Nat,sl=ws.length:=⟨_,rfl⟩
 rw [<-gG] at HJ |-
 have n1:¬9223372036854775807<it.length+1:=zj;have n2:¬9223372036854775807<it.length+1+jn.length:=zj;clear jY jX hst hw hwb hwc hws aK h0 h1 hlen iX cB hit gG HT hIL;go_enter func128,ntmps128;go_upto_region 0 with fail;refine nT (S:=fun w'=>w'.cell? (qB b)=some v) (z:=8) zk fG (fun aa=> ?_);refine mS (i:=0) (v:= ?v0) zo zk rfl zk zk zk zk (fun _ _ _ h=>h) (Or.inl ⟨zt,?hy0⟩) aa ?rest0
 case hy0=>(intro w' ab;go_simp;try with_reducible rfl)
 refine qn ?_;refine lX (i:=1) (v:= ?v1) zo rfl zk zk zk (fun _ _ _ h=>h) (Or.inl ⟨zt,?hy1⟩) aa ?rest1
 case hy1=>(intro w' _;go_simp;try with_reducible rfl)
 refine qn ?_;refine lX (i:=4) (v:= ?v4) zo rfl zk zk zk (fun _ _ _ h=>h) (Or.inl ⟨zt,?hy4⟩) aa ?rest4
 case hy4=>(intro w' _;go_simp;try with_reducible rfl)
 refine qn ?_;refine mY (i:=2) zk rfl (fun K hK=> ?_);go_simp;refine (HI.o _ cL.o).mono ?_;rintro e w1 ⟨rfl,hb1⟩;have B1:=zi cL.o hb1;have hS1:=(HS.o.later B1).F9.cell;refine hK _ _ (.inl hS1) ?_;clear hK K hb1;refine qn ?_;refine lX (i:=3) (v:= ?v3) zo rfl zk zk zk (fun _ _ _ h=>h) (Or.inl ⟨zt,?hy3⟩) hS1 ?rest3
 case hy3=>(intro w' _;go_simp;try with_reducible rfl)
 refine qn ?_;refine mY (i:=5) zk rfl (fun K hK=> ?_);go_simp;refine (HJ.o _ B1).mono ?_;rintro e w2 ⟨rfl,hb2⟩;have B2:=zi B1 hb2;have hS2:=(HS.o.later B2).F9.cell;refine hK _ _ (.inl hS2) ?_;clear hK K hb2;refine qn ?_;obtain ⟨g,cap,w3,ae,hc3,hf3,cn⟩:=Li HS.o B2 C9 hls;have HO:Aside _:=cn;clear cn;refine lX (i:=6) (v:= ?v6a) zo rfl zk zk zk (fun _ _ _ h=>h) (Or.inl ⟨zt,?hy6a⟩) hS2 ?rest6a
 case hy6a=>(intro w' _;go_simp;try with_reducible rfl)
 refine qn ?_
 try rw [hLB]
 refine mY (i:=7) zk rfl (fun K hK=> ?_);go_simp;refine hK _ _ (.inl ((HS.o.later (B2.alloc B2.size _)).F9.cell)) ?_;clear hK K;refine qn ?_;refine mY (i:=8) zk rfl (fun K hK=> ?_);rw [if_pos zt];simp only [ZU,ZZ,Ya];refine Lib.wp_append_run _ _ _ _ _ rfl v (qG w2.heap.size 1 1) rfl rfl _ w3 ae ?_;refine hK _ _ (.inr ⟨rfl,zo⟩) ?_;clear hK K ae;refine qn ?_;refine Iy (i:=9) zk rfl zk (fun K hK=> ?_);go_simp;refine hK _ _ ?_;clear hK K hc3 hf3;refine ma zk ?_ _;go_wp2;go_end0;obtain ⟨v',_,h⟩:=HO.o;exact ⟨v',rfl,h⟩
end
section
open RowKit Lib Go.Sort
def rE(p q:Plc):Bool:=decide (q.2.1=p.2.1) &&(decide (q.2.2=p.2.2) &&decide (q.1<p.1))
theorem Xa(x y:qY):(x.toList==y.toList)=decide (x=y):=by
 have hs:x.toList=y.toList↔x=y:=⟨fun h=>by rw [ZB,ZB] at h;exact WideShapes.bytes_inj h,fun h=>by rw [h]⟩
 grind
theorem RA(W)(B)(q p)(hB:x9 W B p):
  qC 202 (#[pS q]++ #[qP B]) W (qR (.bool (rE p q)) W):=by
 obtain ⟨n,i,s⟩:=q;obtain ⟨n',i',s'⟩:=p
 have g0:=fun o=>mZ ((uO _ W).alloc zg o) hB.c0
 have g1:=fun o=>mZ ((uO _ W).alloc zg o) hB.c1
 have g2:=fun o=>mZ ((uO _ W).alloc zg o) hB.c2
 dsimp only at g0 g1 g2;unfold pS;dsimp only;go_enter func202,ntmps202;by_cases h1:i=i'
 ·have q1:(i==i')=true:=by simp [h1]
  by_cases h2:s=s'
  ·have q2:(s.toList==s'.toList)=true:=by rw [Xa];simp [h2]
   have e:rE (n',i',s') (n,i,s)=decide (n<n'):=by unfold rE;simp [h1,h2]
   rw [e];exact ke9
  have q2:(s.toList==s'.toList)=false:=by rw [Xa];simp [h2]
  have e:rE (n',i',s') (n,i,s)=false:=by unfold rE;simp [h2]
  rw [e];exact ke9
 have q1:(i==i')=false:=by simp [h1]
 have e:rE (n',i',s') (n,i,s)=false:=by unfold rE;simp [h1]
 rw [e];exact ke9
def nmB(qs:List Plc)(p:Plc):ByteArray:=if qs.any (rE p)=true then (p.2.2++⟨#[126]⟩)++⟨(Lib.itoa p.1).toArray⟩ else p.2.2
def NmR(w:qW)(b:Nat)(n:Int)(s:qY)(w':qW):Prop:=w'.cell? (qB b)=some (qI n)/\w'.cell? (qA b 2)=some (.string s)/\qL w w'
theorem NmR.later{w}{b}{n}{s}{w1 w2}(h:NmR w b n s w1)(hb:qL w1 w2):NmR w b n s w2:=⟨mZ hb h.1,mZ hb h.2.1,zi h.2.2 hb⟩
theorem NmR.drew{w}{b}{n}{s}{w1}(h:NmR w b n s w1):NmR w b n s w1.drew:=h.later (uO _ w1).drew
theorem NmR.b{w}{b}{n}{s}{w1}(h:NmR w b n s w1):qL w w1:=h.2.2
theorem Dd(w)(ao)(cap)(qs)(p)(ar:S7 w ao qs)(hl:qs.length<=1000000)(h0:0<=p.1)(h1:p.1<2^62)(hs:p.2.2.size<=60)
  (aK:Lib.TabIs prog w "internal/strconv.uint64pow10" .u64 Lib.pow10Tab):
  qC 145 #[.slice ao qs.length cap,pS p] w (qR (.string (nmB qs p)) w):=by
 obtain ⟨n,i,s⟩:=p;have HT:Aside (Lib.TabBelow prog w.heap.size w "internal/strconv.uint64pow10" .u64 Lib.pow10Tab):=Lib.tabBelow_of_tabIs aK;obtain ⟨b,hb⟩:=za w.heap.size;obtain ⟨U,hU⟩:=za (w.alloc (.cells #[qI n,qI i,.string s] 212));have hUb:qL w U:=zX
 have hP:x9 U b (n,i,s):=by rw [hU,hb];exact heap_alloc_new w _
 have ac:=QG (rE (n,i,s)) 202 #[qP b] (enters_of func202 zk rfl) ao cap U.heap.size qs U zg (fun W x _ hW=>RA W b x (n,i,s) (hP.same (hW.block b hP.lt))) hl (ar.later hUb);have HN:Aside (nmB qs (n,i,s)=if qs.any (rE (n,i,s))=true then (s++⟨#[126]⟩)++⟨(Lib.itoa n).toArray⟩ else s):=rfl
 have HP:Aside (x9 U b (n,i,s)/\qL w U):=⟨hP,hUb⟩
 have hIL:(Lib.itoa n).length<=1000:=by have:=Lib.itoa_length_le n zj zj;omega
 dsimp only at h0 h1 hs;have n1:¬9223372036854775807<s.size+1:=zj;have n2:¬9223372036854775807<s.size+1+(Lib.itoa n).length:=zj;generalize qs.any (rE (n,i,s))=z at HN ac;clear ar aK hP hUb hl;unfold pS;dsimp only;go_enter func145,ntmps145;go_wp2_with fail;rw [<-hb,<-hU];refine ac.mono ?_;clear ac hU hb;rintro e w1 ⟨rfl,hb1⟩;have R1:NmR w b n s w1:=NmR.later (w1:=U) ⟨HP.o.1.c0,HP.o.1.c2,HP.o.2⟩ hb1;clear hb1
 cases z with
 | true=>
  have HM:Aside (nmB qs (n,i,s)=(s++⟨#[126]⟩)++⟨(Lib.itoa n).toArray⟩):=by rw [HN.o];rfl
  clear HN;go_wp2_with fail;obtain ⟨A0,A1,A2⟩:=id R1
  go_region_held3 (fun w'=>w'.cell? (qB b)=some (qI n)/\w'.cell? (qA b 2)=some (.string s)/\qL w w')
   (first
    | assumption
    | exact NmR.drew ⟨A0,A1,A2⟩
    | exact NmR.later yQ yQ)
   (first
    | (go_at_call 54;refine (Bz _ zj zj _ (HT.o _ (NmR.b yQ))).mono ?_;rintro e w' ⟨rfl,hb⟩))
  have R2:NmR w b n s w':=yQ;go_wp2;go_ret;exact ⟨by rw [HM.o];rfl,R2.2.2⟩
 | false=>
  have HM:Aside (nmB qs (n,i,s)=s):=by rw [HN.o];rfl
  clear HN;obtain ⟨A0,A1,A2⟩:=id R1;go_wp2;go_ret;exact ⟨by rw [HM.o];rfl,A2⟩
end
section
open RowKit Lib Go.Sort Maps
open scoped Classical
def Ns(p:Plc):List Plc->List Plc
 | []=>[p]
 | q::r=>if q.1<p.1 then q::Ns p r else if q.1=p.1 then p::r else p::q::r
theorem FJ{p} :∀ {L:List Plc},L.Pairwise (fun a b=>a.1<b.1)->∀x,x∈Ns p L↔x=p\/(x∈L/\x.1≠p.1)
 | [],_,x=>by simp [Ns]
 | q::r,h,x=>by
  have hr:=Zw.1 h;unfold Ns;split
  ·rename_i k;rw [uZ,FJ hr.2 x,uZ];constructor
   ·rintro (e | e | ⟨e,e'⟩)
    ·exact .inr ⟨.inl e,by rw [e];omega⟩
    ·exact .inl e
    exact .inr ⟨.inr e,e'⟩
   rintro (e | ⟨e | e,e'⟩)
   ·exact .inr (.inl e)
   ·exact .inl e
   exact .inr (.inr ⟨e,e'⟩)
  grind
theorem GD{p} :∀ {L:List Plc},L.Pairwise (fun a b=>a.1<b.1)->(Ns p L).Pairwise (fun a b=>a.1<b.1)
 | [],_=>by simp [Ns]
 | q::r,h=>by
  have hr:=Zw.1 h;unfold Ns;split
  ·rename_i k;refine Zw.2 ⟨fun x hx=> ?_,GD hr.2⟩
   grind [FJ]
  rename_i k;split
  ·rename_i k';exact Zw.2 ⟨fun x hx=>zN,hr.2⟩
  rename_i k';refine Zw.2 ⟨fun x hx=> ?_,h⟩
  grind
theorem Ka(p):∀L:List Plc,(Ns p L).length<=L.length+1
 | []=>by simp [Ns]
 | q::r=>by
  have:=Ka p r
  grind [Ns]
theorem tK:∀(ms:List Mov) (f:Sta) (L:List Plc),D4 f L->(∀k p,f k=some p->p.1=k)->∃L',D4 (BG f ms) L'/\L'.length<=L.length+ms.length
 | [],f,L,h,_=>⟨L,h,zq⟩
 | m::ms,f,L,h,hk=>by
  by_cases hi:IX f m.2
  ·obtain ⟨L',h1,h2⟩:=tK ms (K8 f m) L (by rw [oF hi];exact h) (by rw [oF hi];exact hk);exact ⟨L',h1,zN⟩
  have hs:D4 (K8 f m) (Ns m.2 L):=by
   rw [ng hi];refine ⟨GD h.K7,fun x=> ?_⟩;rw [FJ h.K7 x];unfold upd;by_cases e:x.1=m.2.1
   ·rw [if_pos e];constructor
    ·rintro (q | ⟨_,q⟩)
     ·rw [q]
     exact absurd e q
    intro q;exact .inl (Option.some.inj q).symm
   rw [if_neg e,<-h.U7 x];constructor
   ·rintro (q | ⟨q,_⟩)
    ·exact absurd (by rw [q]) e
    exact q
   exact fun q=>.inr ⟨q,e⟩
  obtain ⟨L',h1,h2⟩:=tK ms (K8 f m) (Ns m.2 L) hs (fun k p q=>by
   rw [ng hi] at q
   unfold upd at q
   split at q
   ·rename_i e
    rw [<-Option.some.inj q];exact e.symm
   ·exact hk k p q)
  refine ⟨L',h1,?_⟩
  grind [Ka,Zd]
theorem Af(ms):∃L,D4 (mX ms) L/\L.length<=ms.length:=by
 obtain ⟨L,h1,h2⟩:=tK ms tB [] ⟨List.Pairwise.nil,fun p=>by simp [tB]⟩ (fun k p h=>ve);exact ⟨L,h1,by simpa using h2⟩

end