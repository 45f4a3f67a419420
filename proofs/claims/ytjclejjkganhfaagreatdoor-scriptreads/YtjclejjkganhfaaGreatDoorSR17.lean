import Derived.Test.YtjclejjkganhfaaGreatDoorSR08
import Derived.Test.YtjclejjkganhfaaGreatDoorSR10
set_option linter.unusedSimpArgs false
set_option linter.unusedVariables false
set_option maxRecDepth 100000
set_option maxHeartbeats 64000000
namespace Go.Proofs.YtjclejjkganhfaaGreatDoor
open Go.Proofs.Tryz
section
open Shelf RowKit Lib Go.Sort
theorem Ai:∀a b:qU,Lib.compareBytes a b=Ew a b
 | [],[]=>xS
 | [],b::bs=>xS
 | a::r,[]=>xS
 | a::r,b::t=>by
  unfold Lib.compareBytes Ew;rw [Ai r t]
  grind [Ew,List.cons_lt_cons_iff,UInt8.lt_irrefl,UInt8.lt_iff_toNat_lt]
theorem Uk(a b)(w):qC 193 #[.string a,.string b] w fun e w'=>e= .returned (qI (Ew a.data.toList b.data.toList))/\w'=w:=by
 have h:=Tryz.strings_Compare a b w;rw [Ai] at h;exact h
def zaN(x y:Plc):Int:=orZ (Ew x.2.2.data.toList y.2.2.data.toList) (Aq x.1 y.1)
def NLt(a b:qU×Int):Prop:=a.1<b.1\/(a.1=b.1/\a.2<b.2)
def Gb(p:Plc):qU×Int:=(p.2.2.data.toList,p.1)
theorem LC{a} :¬NLt a a:=fun h=>h.elim (fun q=>List.lt_irrefl _ q) (fun q=>by have:=q.2;omega)
theorem Gp{a b c}(h:NLt a b)(k:NLt b c):NLt a c:=by
 rcases h with h | ⟨h,h'⟩<;>rcases k with k | ⟨k,k'⟩
 ·exact .inl (List.lt_trans h k)
 ·exact .inl (by rw [<-k];exact h)
 ·exact .inl (by rw [h];exact k)
 exact .inr ⟨h.trans k,zj⟩
theorem Pz{a b}(h:a≠b):NLt a b\/NLt b a:=by
 obtain ⟨x,m⟩:=a;obtain ⟨y,n⟩:=b;by_cases e:x=y
 ·subst e
  rcases Int.lt_trichotomy m n with q | q | q
  ·exact .inl (.inr ⟨rfl,q⟩)
  ·simp_all
  exact .inr (.inr ⟨rfl,q⟩)
 rcases AA e with q | q
 ·exact .inl (.inl q)
 exact .inr (.inl q)
theorem wR(x y)[Decidable (NLt (Gb x) (Gb y))]:ltOf zaN x y=decide (NLt (Gb x) (Gb y)):=by
 unfold ltOf zaN orZ Ew Aq;rw [YS];simp only [decide_eq_true_eq];unfold NLt Gb
 grind
open scoped Classical in
theorem VT:SWO (ltOf zaN) where
 irrefl x:=by rw [wR];exact decide_eq_false LC
 trans x y z h1 h2:=by
  rw [wR] at*;exact decide_eq_true (Gp (of_decide_eq_true h1) (of_decide_eq_true h2))
 ntrans x y z h1 h2:=by
  grind [wR,of_decide_eq_false,decide_eq_false,Gb,Pz,Gp]
theorem UN(x y)(w):qC 192 (#[.agg (lL x).toArray,.agg (lL y).toArray]++ #[]) w fun e w'=>e= .returned (qI (zaN x y))/\∃q os',w'=grow (w.drewN q) os':=by
 obtain ⟨a,c,s⟩:=x;obtain ⟨a',c',s'⟩:=y;unfold lL;dsimp only;obtain ⟨S,hS⟩:=za w.heap.size;obtain ⟨U,hU⟩:=za ((w.alloc (.cells #[qI a,qI c,.string s] 212)).alloc (.cells #[qI a',qI c',.string s'] 212))
 have cA:U.heap[S+1]? =some (.cells #[qI a',qI c',.string s'] 212 (0,0)):=by
  have:=heap_alloc_new (w.alloc (.cells #[qI a,qI c,.string s] 212)) (.cells #[qI a',qI c',.string s'] 212);exact kl4
 have bI:U.heap[S]? =some (.cells #[qI a,qI c,.string s] 212 (0,0)):=by
  exact kf1
 have x0:U.drew.cell? (qB S)=some (qI a):=yO;have x1:U.drew.cell? (qA S 2)=some (.string s):=yO;have y0:U.drew.cell? (qB (S+1))=some (qI a'):=yP;have y1:U.drew.cell? (qA (S+1) 2)=some (.string s'):=yP
 have HX:Aside (U.drew.cell? (qB S)=some (qI a)/\U.drew.cell? (qA S 2)=some (.string s)/\U.drew.cell? (qB (S+1))=some (qI a')/\U.drew.cell? (qA (S+1) 2)=some (.string s')):=⟨x0,x1,y0,y1⟩
 have HU:Aside (∃os,U=grow w os):=⟨_,vV⟩
 clear bI cA x0 x1 y0 y1;go_enter func192,ntmps192;go_wp2_with fail;rw [<-hU,<-hS];clear hU hS;refine lV (S:=fun w'=>w'.cell? (qB S)=some (qI a)/\w'.cell? (qA S 2)=some (.string s)/\w'.cell? (qB (S+1))=some (qI a')/\w'.cell? (qA (S+1) 2)=some (.string s')) zk HX.o (fun aa=> ?_);refine tk 0 aa ?_ (y:=ty zu);refine tk 1 aa ?_ (y:=ty zu);refine tk 2 aa ?_ (y:=ty zu);refine tk 3 aa ?_ (y:=ty zu);refine tk 5 aa ?_ (y:=ty zu);refine tk 6 aa ?_ (y:=ty zu);refine tk 7 aa ?_ (y:=ty zu);refine tk 8 aa ?_ (y:=ty zu);refine an (i:=4) zk rfl (fun K hK=> ?_);go_simp;refine (Uk _ _ _).mono ?_;rintro e w1 ⟨rfl,rfl⟩;refine hK _ _ HX.o ?_;clear hK K;refine qn ?_;refine an (i:=9) zk rfl (fun K hK=> ?_);go_simp;refine (BQ _ _ _).mono ?_;rintro e w1 ⟨rfl,rfl⟩;refine hK _ _ HX.o ?_;clear hK K;refine qn ?_;refine an (i:=10) zk rfl (fun K hK=> ?_);go_simp;obtain ⟨V,hV⟩:=za ((U.alloc (.cells #[qI (Ew s.data.toList s'.data.toList),qI (Aq a a')] 3)).drew)
 have ai:Below U.drew.heap.size U.drew V:=by rw [hV];exact ⟨rfl,rfl,rfl,((uM U.heap.size U).alloc zg _).size,((uM U.heap.size U).alloc zg (.cells #[qI (Ew s.data.toList s'.data.toList),qI (Aq a a')] 3)).block⟩
 have hVn:V.heap[U.heap.size]? =some (.cells #[qI (Ew s.data.toList s'.data.toList),qI (Aq a a')] 3 (0,0)):=xB
 have HV:Aside (∃q os',V=grow (w.drewN q) os'):=by
  exact km5
 have g0:V.cell? (qB U.heap.size)=some (qI (Ew s.data.toList s'.data.toList)):=xq;have g1:V.cell? (qA U.heap.size 1)=some (qI (Aq a a')):=xq;rw [<-hV]
 have HY:Aside (V.cell? (qB S)=some (qI a)/\V.cell? (qA S 2)=some (.string s)/\V.cell? (qB (S+1))=some (qI a')/\V.cell? (qA (S+1) 2)=some (.string s')):=⟨oJ ai HX.o.1,oJ ai HX.o.2.1,oJ ai HX.o.2.2.1,oJ ai HX.o.2.2.2⟩
 exact kc5
theorem NS(blk off size)(w):CmpLays prog 192 #[] lL 3 zaN blk off size w:=fun _ _ _ _ x y=>UN x y _
theorem WT:∀args w,(callFunc 192 args).run prog w= .ok (.enter 192 args) w:=enters_of func192 zk rfl
end
section
open RowKit
def pR(k:Nat)(l:qU):Bool:=if k=87 then nY l else if k=76 then nY l &&decide (l.length=1) else if k=80 then decide (l≠ []) else false
theorem UG(s)(b)(w)(hs:s.size<=1000000)(h:nY s.data.toList=b):
  qC 206 #[.string s] w fun e w'=>e= .returned (.bool b)/\w'=w:=by rw [<-h];exact Ju s w hs
theorem Lx(w)(k:Nat)(word)(hk:k<256)(hs:word.size<=1000000):
  qC 151 #[.int .u8 (k:Int),.string word] w fun e w'=>e= .returned (.bool (pR k word.data.toList))/\w'=w:=by
 obtain ⟨b,hb⟩:∃b,Aside (nY word.data.toList=b):=⟨_,rfl⟩
 have hN:=UG word b w hs hb.o;have hl:word.data.toList.length=word.size:=zr;by_cases k1:k=87
 ·subst k1;have e:Aside (pR 87 word.data.toList=b):=hb.o;exact kd9
 by_cases k2:k=76
 ·subst k2
  cases b with
  | false=>
   have e:Aside (pR 76 word.data.toList=false):=by unfold pR;rw [if_neg zj,if_pos rfl,hb.o];rfl
   exact kd9
  | true=>
   obtain ⟨c,hc⟩:∃c,((word.size:Int)==1)=c:=⟨_,rfl⟩
   have e:Aside (pR 76 word.data.toList=c):=by
    unfold pR;rw [if_neg zj,if_pos rfl,hb.o,hl,<-hc];rw [Bool.true_and,YS,decide_eq_true_iff,beq_iff_eq];exact Int.ofNat_inj.symm
   exact kd9
 have d1:((k:Int)==87)=false:=zm;have d2:((k:Int)==76)=false:=zm;by_cases k3:k=80
 ·subst k3
  obtain ⟨c,hc⟩:∃c,pR 80 word.data.toList=c:=⟨_,rfl⟩
  have fE:Aside (pR 80 word.data.toList=c):=hc
  have e1:Aside ((!word.toList.isEmpty)=c):=by
   rw [<-hc];unfold pR;rw [if_neg zj,if_neg zj,if_pos rfl,Zu]
   cases word.data.toList<;>rfl
  rw [fE.o];go_enter func151,ntmps151;go_wp2;go_ret;exact ⟨congrArg (fun b=>Ending.returned (.bool b)) e1.o,rfl⟩
 have d3:((k:Int)==80)=false:=zm
 have e:Aside (pR k word.data.toList=false):=by unfold pR;rw [if_neg k1,if_neg k2,if_neg k3];rfl
 rw [e.o];go_enter func151,ntmps151;exact ka7
def nr(k:Nat)(word:qY)(s:Lr):Lr×Bool:=
 if k=68 then ((s.1++ [(((rP 7 word.data.toList).getD 0:Nat):Int)],s.2.1,s.2.2),(rP 7 word.data.toList).isSome &&decide ((rP 7 word.data.toList).getD 0<3))
 else if k=78 then ((s.1,s.2.1++ [(((rP 7 word.data.toList).getD 0:Nat):Int)],s.2.2),(rP 7 word.data.toList).isSome)
 else ((s.1,s.2.1,s.2.2++ [word]),pR k word.data.toList)
def Xc(B b:Nat)(s:Lr)(z:Bool)(w:qW)(e:Ending)(w':qW):Prop:=e= .returned (.bool z)/\Aside (∃v0 v1 v2,J8 w' B b v0 v1 v2 s/\Below B w w')
theorem NU(w)(B b)(v0 v1 v2)(s)(k:Nat)(word)(h:J8 w B b v0 v1 v2 s)(hB:B<=b)(hk:k<256)(hs:word.size<=1000000)(hl:s.1.length+s.2.1.length+s.2.2.length<=100):
  qC 109 #[ptB b,.int .u8 (k:Int),.string word] w (Xc B b (nr k word s).1 (nr k word s).2 w):=by
 have hN:=Ci 7 zj word w
 have hw:B<=w.heap.size:=by have:=h.F3.lt;omega
 have c0:=h.F3.cell 0;have c1:=h.F3.cell 1;have c2:=h.F3.cell 2;simp only [uZ,Zb] at c0 c1 c2;unfold ptB;by_cases k1:k=68
 ·subst k1;have e:Aside (nr 68 word s=((s.1++ [(((rP 7 word.data.toList).getD 0:Nat):Int)],s.2.1,s.2.2),(rP 7 word.data.toList).isSome &&decide ((rP 7 word.data.toList).getD 0<3))):=if_pos rfl;rw [e.o]
  generalize (rP 7 word.data.toList).isSome=z at hN |-
  generalize (rP 7 word.data.toList).getD 0=n at hN |-
  obtain ⟨v',w3,ae,ho,hg,hv⟩:=AO (S:=35) underlying35 Vx zj rfl h.r0 hw zj (Mf (n:Int)) rfl 35;have H:=h.adP (n:Int) ho hg hv hB
  have HF:Aside (J8 (w3.setCell (qB b) v') B b v' v1 v2 (s.1++ [(n:Int)],s.2.1,s.2.2)/\Below B w (w3.setCell (qB b) v')):=⟨H.1,H.2 hw⟩
  have hb3:p8 w3 b 84 [v0,v1,v2]:=(hg.block b h.F3.lt (fun e=>nJ h.r0 h.F3 tyI e.symm)).trans h.F3
  have f0:w3.cell? (qB b)=some v0:=by simpa using hb3.cell 0
  have z0:w3.frozen? (qB b)=false:=vr;obtain ⟨ao,cap,rfl⟩:=mC h.r0;obtain ⟨ao',cap',rfl⟩:=mC ho;unfold Mf at ae
  have hd:decide ((n:Int)<3)=decide (n<3):=by rw [YS];simp;omega
  have HD:Aside (decide ((n:Int)<3)=decide (n<3)):=hd
  cases z
  ·exact kf3
  go_enter func109,ntmps109;go_wp2_with (first | (go_at_call 150;refine hN.mono ?_;rintro e w' ⟨rfl,rfl⟩) | (at_builtin;refine Lib.wpList_append_run _ rfl _ _ _ _ rfl _ _ rfl rfl _ _ ae ?_));go_ret;exact ⟨by rw [Bool.true_and,<-HD.o];rfl,_,_,_,HF.o⟩
 by_cases k2:k=78
 ·subst k2;have e:Aside (nr 78 word s=((s.1,s.2.1++ [(((rP 7 word.data.toList).getD 0:Nat):Int)],s.2.2),(rP 7 word.data.toList).isSome)):=rfl;rw [e.o]
  generalize (rP 7 word.data.toList).isSome=z at hN |-
  generalize (rP 7 word.data.toList).getD 0=n at hN |-
  obtain ⟨v',w3,ae,ho,hg,hv⟩:=AO (S:=35) underlying35 Vx zj rfl h.r1 hw zj (Mf (n:Int)) rfl 35;have H:=h.adJ (n:Int) ho hg hv hB
  have HF:Aside (J8 (w3.setCell (qA b 1) v') B b v0 v' v2 (s.1,s.2.1++ [(n:Int)],s.2.2)/\Below B w (w3.setCell (qA b 1) v')):=⟨H.1,H.2 hw⟩
  have hb3:p8 w3 b 84 [v0,v1,v2]:=(hg.block b h.F3.lt (fun e=>nJ h.r1 h.F3 tyI e.symm)).trans h.F3
  have f0:w3.cell? (qA b 1)=some v1:=by simpa using hb3.cell 1
  have z0:w3.frozen? (qA b 1)=false:=vr;obtain ⟨ao,cap,rfl⟩:=mC h.r1;obtain ⟨ao',cap',rfl⟩:=mC ho;unfold Mf at ae;exact kf3
 have d1:((k:Int)==68)=false:=zm;have d2:((k:Int)==78)=false:=zm
 have e:Aside (nr k word s=((s.1,s.2.1,s.2.2++ [word]),pR k word.data.toList)):=by unfold nr;rw [if_neg k1,if_neg k2];rfl
 rw [e.o];obtain ⟨v',w3,ae,ho,hg,-⟩:=AO (S:=22) underlying22 JB zj rfl h.r2 hw zj (ru word) rfl 22;have H:=h.adM word ho hg hB
 have HF:Aside (J8 (w3.setCell (qA b 2) v') B b v0 v1 v' (s.1,s.2.1,s.2.2++ [word])/\Below B w (w3.setCell (qA b 2) v')):=⟨H.1,H.2 hw⟩
 have hb3:p8 w3 b 84 [v0,v1,v2]:=(hg.block b h.F3.lt (fun e=>nJ h.r2 h.F3 tyS e.symm)).trans h.F3
 have f0:w3.cell? (qA b 2)=some v2:=by simpa using hb3.cell 2
 have z0:w3.frozen? (qA b 2)=false:=vr;have hT:=Lx (w3.setCell (qA b 2) v') k word hk hs;obtain ⟨ao,cap,rfl⟩:=mC h.r2;obtain ⟨ao',cap',rfl⟩:=mC ho;unfold ru at ae;go_enter func109,ntmps109;go_wp2_with (first | (go_at_call 151;refine hT.mono ?_;rintro e w' ⟨rfl,rfl⟩) | (at_builtin;refine Lib.wpList_append_run _ rfl _ _ _ _ rfl _ _ rfl rfl _ _ ae ?_));go_ret;exact ⟨rfl,_,_,_,HF.o⟩
def rT:List UInt8->List ByteArray->Lr->Option Lr
 | k::ks,x::xs,s=>if (nr k.toNat x s).2 then rT ks xs (nr k.toNat x s).1 else none
 | _,_,s=>some s
def oQ(form:List UInt8)(aaf:List ByteArray):Option Lr:=if aaf.length=form.length then rT form aaf ([],[],[]) else none
structure B8 (w:qW) (v0 v1 v2:Value) (s:Lr):Prop where
 r0:∃B,w.ownsRow B 3 1 v0 s.1.length (s.1.map Mf)
 r1:∃B,w.ownsRow B 3 1 v1 s.2.1.length (s.2.1.map Mf)
 r2:∃B,w.ownsRow B 9 1 v2 s.2.2.length (s.2.2.map ru)
theorem Gs(w):B8 w (.slice none 0 0) (.slice none 0 0) (.slice none 0 0) ([],[],[]):=⟨⟨0,Zi _ _ _ _⟩,⟨0,Zi _ _ _ _⟩,⟨0,Zi _ _ _ _⟩⟩
def VH(n:Nat)(v0 v1:Value):Prop:=∀k,v0.ownBlock=some k\/v1.ownBlock=some k->n<=k
theorem Jo(n):VH n (.slice none 0 0) (.slice none 0 0):=fun k q=>by rcases q with q | q<;>cases q
def Uf(o:Option Lr)(w:World)(e:Ending)(w':World):Prop:=∃v0 v1 v2,e= .returned (.tuple #[.agg #[v0,v1,v2],.bool o.isSome])/\Aside (Below w.heap.size w w'/\B8 w' v0 v1 v2 (o.getD ([],[],[]))/\VH w.heap.size v0 v1)
def EQ(w:World)(ao:Option Addr)(L:List ByteArray):Prop:=∀i x,L[i]? =some x->∃blk off,ao=some ⟨blk,off,none⟩/\w.cell? ⟨blk,off+i,none⟩=some (.string x)
theorem Tv{k}{x}{s} :(nr k x s).1.1.length+(nr k x s).1.2.1.length+(nr k x s).1.2.2.length=s.1.length+s.2.1.length+s.2.2.length+1:=by
 grind [nr]
theorem NE{w}{S b}{v0 v1 v2}{s}(h:J8 w (S+1) b v0 v1 v2 s)(x y z):B8 (((w.setCell ⟨S,0,none⟩ x).setCell ⟨S,1,none⟩ y).setCell ⟨S,2,none⟩ z) v0 v1 v2 s:=
 have k0:v0.ownBlock≠some S:=fun e=>by have:=(h.r0.lt S e).1;omega
 have k1:v1.ownBlock≠some S:=fun e=>by have:=(h.r1.lt S e).1;omega
 have k2:v2.ownBlock≠some S:=fun e=>by have:=(h.r2.lt S e).1;omega
 ⟨⟨_,mz (mz (mz h.r0 k0) k0) k0⟩,⟨_,mz (mz (mz h.r1 k1) k1) k1⟩,⟨_,mz (mz (mz h.r2 k2) k2) k2⟩⟩
theorem RK(w W w1)(S)(h0:W.heap[S]? =some (.cells #[.slice none 0 0,.slice none 0 0,.slice none 0 0] 84 (0,0)))(hb:Below S w W)(h1:Below (S+1) W w1):
  w1.cell? ⟨S,0,none⟩=some (.slice none 0 0)/\w1.cell? ⟨S,1,none⟩=some (.slice none 0 0)/\w1.cell? ⟨S,2,none⟩=some (.slice none 0 0)/\w1.frozen? ⟨S,0,none⟩=false/\w1.frozen? ⟨S,1,none⟩=false/\w1.frozen? ⟨S,2,none⟩=false/\
   ∀a b c:Value,Below S w (((w1.setCell ⟨S,0,none⟩ a).setCell ⟨S,1,none⟩ b).setCell ⟨S,2,none⟩ c)/\p8 (((w1.setCell ⟨S,0,none⟩ a).setCell ⟨S,1,none⟩ b).setCell ⟨S,2,none⟩ c) S 84 [a,b,c]:=by
 have hB:p8 w1 S 84 [.slice none 0 0,.slice none 0 0,.slice none 0 0]:=(h1.block S zj).trans h0;have hw:=hb.trans (h1.mono zj);refine ⟨hB.cell 0,hB.cell 1,hB.cell 2,?_,?_,?_,fun a b c=>⟨((hw.setCell zg _).setCell zg _).setCell zg _,((hB.set 0 a).set 1 b).set 2 c⟩⟩<;>simp [World.frozen?,hB]
theorem Uy(w:World)(form:ByteArray)(ao:Option Addr)(cap:Nat)(L:List ByteArray)(hL:EQ w ao L)(hf:form.size<=50)(hn:L.length<=50)(hs:∀x∈L,x.size<=1000000):
  Calls prog 69 #[.string form,.slice ao L.length cap] w (Uf (oQ form.data.toList L) w):=by
 by_cases hl:L.length=form.size
 ·have e:Aside (oQ form.data.toList L=rT form.data.toList L ([],[],[])):=if_pos qw;rw [e.o]
  obtain ⟨R,hR⟩:∃R,Aside (rT form.data.toList L ([],[],[])=R):=⟨_,rfl⟩
  rw [hR.o]
  obtain ⟨n,hn'⟩:∃n,L.length=n:=⟨_,rfl⟩
  have d0:((n:Int) !=(n:Int))=false:=zr
  have HL:Aside (EQ w ao L/\∀x∈L,x.size<=1000000):=⟨hL,hs⟩
  rw [hn'] at hn hl |-
  have hfs:=hl.symm;clear e hL hs hl
  have hA:Aside (∀W,W=(w.alloc (.cells #[.slice none 0 0,.slice none 0 0,.slice none 0 0] 84)).alloc (.cells #[.slice none 0 0,.slice none 0 0,.slice none 0 0] 84)->W.heap[w.heap.size]? =some (.cells #[.slice none 0 0,.slice none 0 0,.slice none 0 0] 84 (0,0))/\Below (w.heap.size+1) (w.alloc (.cells #[.slice none 0 0,.slice none 0 0,.slice none 0 0] 84)) W/\Below w.heap.size w W/\J8 W (w.heap.size+1) (w.heap.size+1) (.slice none 0 0) (.slice none 0 0) (.slice none 0 0) ([],[],[])):=by
   rintro W rfl;refine ⟨?_,(uM _ _).alloc zr _,(zh w _).alloc zr _,⟨?_,Zi _ _ _ _,Zi _ _ _ _,Zi _ _ _ _,.inl rfl⟩⟩
   ·rw [uR _ _ _ zr];exact heap_alloc_new w _
   have:=heap_alloc_new (w.alloc (.cells #[.slice none 0 0,.slice none 0 0,.slice none 0 0] 84)) (.cells #[.slice none 0 0,.slice none 0 0,.slice none 0 0] 84);exact kc7
  go_enter func69,ntmps69;go_wp2_with fail;obtain ⟨W,hW⟩:=za ((w.alloc (.cells #[.slice none 0 0,.slice none 0 0,.slice none 0 0] 84)).alloc (.cells #[.slice none 0 0,.slice none 0 0,.slice none 0 0] 84));have A0:Aside _:=hA.o W hW;rw [<-hW];clear hW hA
  obtain ⟨S,hS⟩:∃S,Aside (w.heap.size=S):=⟨_,rfl⟩
  rw [hS.o] at A0 |-
  go_loopg [17] n (fun kx js wr=>∃i:Nat,js= .int .i64 (i:Int)/\i<=n/\n - i<=kx/\Aside (∃v0 v1 v2 s,J8 wr (S+1) (S+1) v0 v1 v2 s/\rT (form.data.toList.drop i) (L.drop i) s=R/\s.1.length+s.2.1.length+s.2.2.length=i/\Below (S+1) W wr))
  case atStart=>exact ⟨0,rfl,zj,uL _,_,_,_,_,A0.o.2.2.2,hR.o,rfl,uM _ _⟩
  case round=>
   obtain ⟨i,rfl,hi,aY,A⟩:=hrel;obtain ⟨v0,v1,v2,s,A1⟩:∃v0 v1 v2 s,Aside (J8 wr (S+1) (S+1) v0 v1 v2 s/\rT (form.data.toList.drop i) (L.drop i) s=R/\s.1.length+s.2.1.length+s.2.2.length=i/\Below (S+1) W wr):=A.o;clear A;by_cases hlt:i<n
   ·have aq:decide ((i:Int)<(n:Int))=true:=by simp;omega
    have ei:((i:Int)).toNat=i:=zj;have pi:(0:Int)<=(i:Int):=zj;have bi:(i:Int)<(n:Int):=zj;have bf:i<form.size:=zj
    obtain ⟨x,hx⟩:∃x,Aside (L[i]? =some x):=⟨L[i]'zj,uJ zj⟩
    obtain ⟨blk,off,aG,hc⟩:=HL.o.1 i x hx.o;subst aG
    have bF:Below S w wr:=by exact A0.o.2.2.1.trans (A1.o.2.2.2.mono zj)
    have cx:wr.cell? ⟨blk,off+i,none⟩=some (.string x):=(bF.cell (p:=⟨blk,off+i,none⟩) (by have:=uN w ⟨blk,off+i,none⟩ hc;rw [hS.o] at this;exact this)).trans hc;have hT:=NU wr (S+1) (S+1) v0 v1 v2 s (form[i]'bf).toNat x A1.o.1 zg (UInt8.toNat_lt _) (HL.o.2 x (uP hx.o)) (by have:=A1.o.2.2.1;omega);clear hc bF
    have hRn:Aside (R=if (nr (form[i]'bf).toNat x s).2 then rT (form.data.toList.drop (i+1)) (L.drop (i+1)) (nr (form[i]'bf).toNat x s).1 else none):=by
     have h:=A1.o.2.1
     rw [pF form i bf,show L.drop i=x::L.drop (i+1) by
      have hl:i<L.length:=zj
      rw [Yg hl]
      have e:=hx.o
      rw [uJ hl] at e
      rw [Option.some.inj e]] at h
     exact h.symm
    have hLn:= @Tv (form[i]'bf).toNat x s;go_wp2_with fail;refine hT.mono ?_;clear hT cx;rintro e w1 ⟨rfl,v0',v1',v2',hT1,hT2⟩
    have A2:Aside (J8 w1 (S+1) (S+1) v0' v1' v2' (nr (form[i]'bf).toNat x s).1/\Below (S+1) W w1/\(nr (form[i]'bf).toNat x s).1.1.length+(nr (form[i]'bf).toNat x s).1.2.1.length+(nr (form[i]'bf).toNat x s).1.2.2.length=i+1):=⟨hT1,A1.o.2.2.2.trans hT2,by rw [hLn,A1.o.2.2.1]⟩
    clear hT1 hT2 hLn A1
    generalize (nr (form[i]'bf).toNat x s).1=s' at A2 hRn |-
    generalize (nr (form[i]'bf).toNat x s).2=z at hRn |-
    cases z
    ·have hk:=RK w W w1 S A0.o.1 A0.o.2.2.1 A2.o.2.1
     have e:Aside (R=none):=by rw [hRn.o];rfl
     obtain ⟨k0,k1,k2,z0,z1,z2,kE⟩:=hk;have KE:Aside _:=kE;clear kE hRn A2 hlt aq;go_wp2;exact bodyPost_ret (v:=.tuple #[.agg #[.slice none 0 0,.slice none 0 0,.slice none 0 0],.bool false]) vp rfl ⟨_,_,_,by rw [e.o];rfl,by rw [hS.o];exact (KE.o _ _ _).1,by rw [e.o];exact Gs _,Jo _⟩
    have e:Aside (R=rT (form.data.toList.drop (i+1)) (L.drop (i+1)) s'):=by rw [hRn.o];rfl
    clear hRn;go_wp2;go_roundg (n - (i+1))
    case measure=>omega
    case rel=>exact ⟨i+1,zN,zj,uL _,_,_,_,_,A2.o.1,e.o.symm,A2.o.2.2,A2.o.2.1⟩
   have aq:decide ((i:Int)<(n:Int))=false:=zm;obtain rfl:i=n:=zj
   have e:Aside (R=some s):=by
    have h:=A1.o.2.1;rw [<-hn',List.drop_length] at h
    cases hd:form.data.toList.drop L.length with
    | nil=>rw [hd] at h;exact h.symm
    | cons a b=>rw [hd] at h;exact h.symm
   obtain ⟨k0,k1,k2,z0,z1,z2,kE⟩:=RK w W wr S A0.o.1 A0.o.2.2.1 A1.o.2.2.2;have KE:Aside _:=kE;have c0:=A1.o.1.F3.cell 0;have c1:=A1.o.1.F3.cell 1;have c2:=A1.o.1.F3.cell 2;simp only [uZ,Zb] at c0 c1 c2;obtain ⟨a0,q0,rfl⟩:=mC A1.o.1.r0;obtain ⟨a1,q1,rfl⟩:=mC A1.o.1.r1;obtain ⟨a2,q2,rfl⟩:=mC A1.o.1.r2;clear kE hlt;go_wp2;exact bodyPost_ret (v:=.tuple #[.agg #[.slice a0 s.1.length q0,.slice a1 s.2.1.length q1,.slice a2 s.2.2.length q2],.bool true]) vp rfl ⟨_,_,_,by rw [e.o];rfl,by rw [hS.o];exact (KE.o _ _ _).1,by rw [e.o];exact NE A1.o.1 _ _ _,fun k q=>by rw [hS.o];exact q.elim (fun q=>Nat.le_of_succ_le (A1.o.1.r0.lt k q).1) (fun q=>Nat.le_of_succ_le (A1.o.1.r1.lt k q).1)⟩
 have e:Aside (oQ form.data.toList L=none):=if_neg qw;rw [e.o];have d0:((L.length:Int) !=(form.size:Int))=true:=zm;clear e;go_enter func69,ntmps69;go_wp2;exact bodyPost_ret (v:=.tuple #[.agg #[.slice none 0 0,.slice none 0 0,.slice none 0 0],.bool false]) (by simp [results,results69,go_sem]) rfl ⟨_,_,_,rfl,zh w _,Gs _,Jo _⟩
theorem QW{w:qW}{B}{T}{v}{xs}{n}(h:w.ownsRow B T 1 v n xs)(hn:0<n):∃g cap,v=qG g n cap/\g<w.heap.size/\∀i,i<n->w.cell? (qA g i)=xs[i]? :=by
 rcases h.2 with ⟨rfl,h0⟩ | ⟨g,cap,cur,rfl,_⟩
 ·omega
 exact ⟨g,cap,rfl,(h.lt g rfl).2,fun i hi=>h.cellAt i zj⟩
theorem B8.J{w}{v0 v1 v2}{s}(h:B8 w v0 v1 v2 s)(hn:0<s.2.1.length):∃g cap,v1=qG g s.2.1.length cap/\g<w.heap.size/\∀i x,s.2.1[i]? =some x->w.cell? (qA g i)=some (qI x):=by
 obtain ⟨B,h1⟩:=h.r1;exact ke2
theorem B8.abW{w}{v0 v1 v2}{s}(h:B8 w v0 v1 v2 s)(hn:0<s.1.length):∃g cap,v0=qG g s.1.length cap/\g<w.heap.size/\∀i x,s.1[i]? =some x->w.cell? (qA g i)=some (qI x):=by
 obtain ⟨B,h1⟩:=h.r0;exact ke2
theorem B8.aaf{w}{v0 v1 v2}{s}(h:B8 w v0 v1 v2 s)(hn:0<s.2.2.length):∃g cap,v2=qG g s.2.2.length cap/\g<w.heap.size/\∀i x,s.2.2[i]? =some x->w.cell? (qA g i)=some (.string x):=by
 obtain ⟨B,h1⟩:=h.r2;exact ke2
def sY(y:Int×Int×Int×Nat×Int×Int×ByteArray×ByteArray)(w:World)(e:Ending)(w':World):Prop:=e= .returned (.agg #[.int .i64 y.1,.int .i64 y.2.1,.int .i64 y.2.2.1,.int .u8 (y.2.2.2.1:Int),.int .i64 y.2.2.2.2.1,.int .i64 y.2.2.2.2.2.1,.string y.2.2.2.2.2.2.1,.string y.2.2.2.2.2.2.2])/\Aside (Below w.heap.size w w')
def Bg(S:Nat)(V W:World):Prop:=∀(p:Addr) v,p.block<S+1->V.cell? p=some v->W.cell? p=some v
theorem PC(w)(cs)(V)(hV:V=(w.alloc (.cells cs.toArray 84)).alloc (.cells #[.int .i64 0,.int .i64 0,.int .i64 0,.int .u8 0,.int .i64 0,.int .i64 0,.string ⟨#[]⟩,.string ⟨#[]⟩] 88)):
  (∀(p:Addr) v,w.cell? p=some v->V.cell? p=some v)/\p8 V w.heap.size 84 cs/\(V.cell? ⟨w.heap.size+1,0,none⟩=some (.int .i64 0)/\V.cell? ⟨w.heap.size+1,1,none⟩=some (.int .i64 0)/\V.cell? ⟨w.heap.size+1,2,none⟩=some (.int .i64 0)/\V.cell? ⟨w.heap.size+1,3,none⟩=some (.int .u8 0)/\V.cell? ⟨w.heap.size+1,4,none⟩=some (.int .i64 0)/\V.cell? ⟨w.heap.size+1,5,none⟩=some (.int .i64 0)/\V.cell? ⟨w.heap.size+1,6,none⟩=some (.string ⟨#[]⟩)/\V.cell? ⟨w.heap.size+1,7,none⟩=some (.string ⟨#[]⟩)/\∀o,V.frozen? ⟨w.heap.size+1,o,none⟩=false)/\
   (∀a0 a1 a2 a3 a4 a5 a6 a7:Value,Below w.heap.size w (((((((((V.setCell ⟨w.heap.size+1,0,none⟩ a0).setCell ⟨w.heap.size+1,1,none⟩ a1).setCell ⟨w.heap.size+1,2,none⟩ a2).setCell ⟨w.heap.size+1,3,none⟩ a3).setCell ⟨w.heap.size+1,4,none⟩ a4).setCell ⟨w.heap.size+1,5,none⟩ a5).setCell ⟨w.heap.size+1,6,none⟩ a6).setCell ⟨w.heap.size+1,7,none⟩ a7).drew))/\
   ∀a0 a1 a2 a3 a4 a5 a6 a7:Value,Bg w.heap.size V (((((((((V.setCell ⟨w.heap.size+1,0,none⟩ a0).setCell ⟨w.heap.size+1,1,none⟩ a1).setCell ⟨w.heap.size+1,2,none⟩ a2).setCell ⟨w.heap.size+1,3,none⟩ a3).setCell ⟨w.heap.size+1,4,none⟩ a4).setCell ⟨w.heap.size+1,5,none⟩ a5).setCell ⟨w.heap.size+1,6,none⟩ a6).setCell ⟨w.heap.size+1,7,none⟩ a7).drew):=by
 have hb:Below w.heap.size w V:=ux
 have hz:p8 V (w.heap.size+1) 88 [.int .i64 0,.int .i64 0,.int .i64 0,.int .u8 0,.int .i64 0,.int .i64 0,.string ⟨#[]⟩,.string ⟨#[]⟩]:=by
  have:=heap_alloc_new (w.alloc (.cells cs.toArray 84)) (.cells #[.int .i64 0,.int .i64 0,.int .i64 0,.int .u8 0,.int .i64 0,.int .i64 0,.string ⟨#[]⟩,.string ⟨#[]⟩] 88);rw [Zt,<-hV] at this;exact this
 refine ⟨fun p v h=>by rw [hb.cell (p:=p) (uN w p h)];exact h,by rw [hV];exact sX (mq w cs _) _,⟨hz.cell 0,hz.cell 1,hz.cell 2,hz.cell 3,hz.cell 4,hz.cell 5,hz.cell 6,hz.cell 7,fun o=>zL⟩,fun a0 a1 a2 a3 a4 a5 a6 a7=> ?_,fun a0 a1 a2 a3 a4 a5 a6 a7 p v hp h=> ?_⟩
 ·have k:w.heap.size<=w.heap.size+1:=by omega
  exact ((((((((hb.setCell k _).setCell k _).setCell k _).setCell k _).setCell k _).setCell k _).setCell k _).setCell k _).drew
 have e:∀(W:World) (o:Nat) (u:Value),(W.setCell ⟨w.heap.size+1,o,none⟩ u).cell? p=W.cell? p:=fun W o u=>Zp _ _ _ _ (fun q=>by have q:=congrArg Addr.block q;dsimp only at q;omega)
 simp_all
theorem NI(w:World)(v0 v1 v2:Value)(r n0:Int)(x0:ByteArray)(h:B8 w v0 v1 v2 ([r],[n0],[x0])):
  Calls prog 31 #[.agg #[v0,v1,v2]] w (sY (0,0,0,109,0,n0,x0,⟨#[]⟩) w):=by
 obtain ⟨g1,c1,rfl,l1,h1⟩:=h.J zr;have dU:=h1 0 n0 rfl;obtain ⟨g2,c2,rfl,l2,h2⟩:=h.aaf zr;have fp:=h2 0 x0 rfl;obtain ⟨B0,h0⟩:=h.r0;obtain ⟨a0,q0,rfl⟩:=mC h0;have hV:=PC w [.slice a0 1 q0,.slice (some ⟨g1,0,none⟩) 1 c1,.slice (some ⟨g2,0,none⟩) 1 c2];have dU:=(hV _ rfl).1 _ _ dU;have fp:=(hV _ rfl).1 _ _ fp;have HV:Aside _:=(hV _ rfl).2;clear h h0 h1 h2 hV;go_enter func31,ntmps31;go_upto_region 1 with fail;generalize (w.alloc (.cells #[.slice a0 1 q0,.slice (some ⟨g1,0,none⟩) 1 c1,.slice (some ⟨g2,0,none⟩) 1 c2] 84)).alloc (.cells #[.int .i64 0,.int .i64 0,.int .i64 0,.int .u8 0,.int .i64 0,.int .i64 0,.string ⟨#[]⟩,.string ⟨#[]⟩] 88)=V at*
 obtain ⟨S,hS⟩:∃S,Aside (w.heap.size=S):=⟨_,rfl⟩
 rw [hS.o] at HV |-
 rw [hS.o] at l1 l2;have s0:=HV.o.1.cell 0;have s1:=HV.o.1.cell 1;have s2:=HV.o.1.cell 2;simp only [uZ,Zb] at s0 s1 s2;obtain ⟨z0,z1,z2,z3,z4,z5,z6,z7,zf⟩:=HV.o.2.1
 have CS:Bg S V V.drew:=fun p v _ h=>h
 refine lV (S:=Bg S V) zk CS (fun aa=> ?_);refine tk 0 CS ?_;refine tk 1 CS ?_ (y:=ty zD);refine tk 2 CS ?_;refine tk 3 CS ?_ (y:=ty zO);refine tk 4 CS ?_;refine tk 5 CS ?_ (y:=ty zQ);refine tk 6 CS ?_;refine tk 7 CS ?_ (y:=ty zW);refine tk 8 CS ?_;refine an (i:=9) zk rfl (fun K hK=> ?_);go_simp;refine hK _ _ (HV.o.2.2.2 _ _ _ _ _ _ _ _) ?_;clear hK K;refine wpAnyH_done zk ?_ _;refine qn ?_;go_wp2;exact bodyPost_ret (v:=.agg #[.int .i64 0,.int .i64 0,.int .i64 0,.int .u8 109,.int .i64 0,.int .i64 n0,.string x0,.string ⟨#[]⟩]) (by simp [results,results31,go_sem,z0,z1,z2,z3,z4,z5,z6,z7]) rfl ⟨rfl,yl⟩
theorem Pi(w:World)(v0 v1 v2:Value)(r n0 n1:Int)(x0:ByteArray)(h:B8 w v0 v1 v2 ([r],[n0,n1],[x0])):
  Calls prog 33 #[.agg #[v0,v1,v2]] w (sY (0,0,0,109,n0,n1,x0,⟨#[]⟩) w):=by
 obtain ⟨g1,c1,rfl,l1,h1⟩:=h.J zr;have dU:=h1 0 n0 rfl;have gZ:=h1 1 n1 rfl;obtain ⟨g2,c2,rfl,l2,h2⟩:=h.aaf zr;have fp:=h2 0 x0 rfl;obtain ⟨B0,h0⟩:=h.r0;obtain ⟨a0,q0,rfl⟩:=mC h0;have hV:=PC w [.slice a0 1 q0,.slice (some ⟨g1,0,none⟩) 2 c1,.slice (some ⟨g2,0,none⟩) 1 c2];have dU:=(hV _ rfl).1 _ _ dU;have gZ:=(hV _ rfl).1 _ _ gZ;have fp:=(hV _ rfl).1 _ _ fp;have HV:Aside _:=(hV _ rfl).2;clear h h0 h1 h2 hV;go_enter func33,ntmps33;go_upto_region 1 with fail;generalize (w.alloc (.cells #[.slice a0 1 q0,.slice (some ⟨g1,0,none⟩) 2 c1,.slice (some ⟨g2,0,none⟩) 1 c2] 84)).alloc (.cells #[.int .i64 0,.int .i64 0,.int .i64 0,.int .u8 0,.int .i64 0,.int .i64 0,.string ⟨#[]⟩,.string ⟨#[]⟩] 88)=V at*
 obtain ⟨S,hS⟩:∃S,Aside (w.heap.size=S):=⟨_,rfl⟩
 rw [hS.o] at HV |-
 rw [hS.o] at l1 l2;have s0:=HV.o.1.cell 0;have s1:=HV.o.1.cell 1;have s2:=HV.o.1.cell 2;simp only [uZ,Zb] at s0 s1 s2;obtain ⟨z0,z1,z2,z3,z4,z5,z6,z7,zf⟩:=HV.o.2.1
 have CS:Bg S V V.drew:=fun p v _ h=>h
 refine lV (S:=Bg S V) zk CS (fun aa=> ?_);refine tk 0 CS ?_;refine tk 1 CS ?_ (y:=ty zD);refine tk 2 CS ?_;refine tk 3 CS ?_ (y:=ty zO);refine tk 4 CS ?_;refine tk 5 CS ?_ (y:=ty zD);refine tk 6 CS ?_;refine tk 7 CS ?_ (y:=ty ye);refine tk 8 CS ?_;refine tk 9 CS ?_ (y:=ty zQ);refine tk 10 CS ?_;refine tk 11 CS ?_ (y:=ty zW);refine tk 12 CS ?_;refine an (i:=13) zk rfl (fun K hK=> ?_);go_simp;refine hK _ _ (HV.o.2.2.2 _ _ _ _ _ _ _ _) ?_;clear hK K;refine wpAnyH_done zk ?_ _;refine qn ?_;go_wp2;exact bodyPost_ret (v:=.agg #[.int .i64 0,.int .i64 0,.int .i64 0,.int .u8 109,.int .i64 n0,.int .i64 n1,.string x0,.string ⟨#[]⟩]) (by simp [results,results33,go_sem,z0,z1,z2,z3,z4,z5,z6,z7]) rfl ⟨rfl,yl⟩
theorem Qp(w:World)(v0 v1 v2:Value)(r n0 n1:Int)(x0:ByteArray)(h:B8 w v0 v1 v2 ([r],[n0,n1],[x0])):
  Calls prog 34 #[.agg #[v0,v1,v2]] w (sY (0,0,0,105,n0,n1,⟨#[]⟩,x0) w):=by
 obtain ⟨g1,c1,rfl,l1,h1⟩:=h.J zr;have dU:=h1 0 n0 rfl;have gZ:=h1 1 n1 rfl;obtain ⟨g2,c2,rfl,l2,h2⟩:=h.aaf zr;have fp:=h2 0 x0 rfl;obtain ⟨B0,h0⟩:=h.r0;obtain ⟨a0,q0,rfl⟩:=mC h0;have hV:=PC w [.slice a0 1 q0,.slice (some ⟨g1,0,none⟩) 2 c1,.slice (some ⟨g2,0,none⟩) 1 c2];have dU:=(hV _ rfl).1 _ _ dU;have gZ:=(hV _ rfl).1 _ _ gZ;have fp:=(hV _ rfl).1 _ _ fp;have HV:Aside _:=(hV _ rfl).2;clear h h0 h1 h2 hV;go_enter func34,ntmps34;go_upto_region 1 with fail;generalize (w.alloc (.cells #[.slice a0 1 q0,.slice (some ⟨g1,0,none⟩) 2 c1,.slice (some ⟨g2,0,none⟩) 1 c2] 84)).alloc (.cells #[.int .i64 0,.int .i64 0,.int .i64 0,.int .u8 0,.int .i64 0,.int .i64 0,.string ⟨#[]⟩,.string ⟨#[]⟩] 88)=V at*
 obtain ⟨S,hS⟩:∃S,Aside (w.heap.size=S):=⟨_,rfl⟩
 rw [hS.o] at HV |-
 rw [hS.o] at l1 l2;have s0:=HV.o.1.cell 0;have s1:=HV.o.1.cell 1;have s2:=HV.o.1.cell 2;simp only [uZ,Zb] at s0 s1 s2;obtain ⟨z0,z1,z2,z3,z4,z5,z6,z7,zf⟩:=HV.o.2.1
 have CS:Bg S V V.drew:=fun p v _ h=>h
 refine lV (S:=Bg S V) zk CS (fun aa=> ?_);refine tk 0 CS ?_;refine tk 1 CS ?_ (y:=ty zD);refine tk 2 CS ?_;refine tk 3 CS ?_ (y:=ty zO);refine tk 4 CS ?_;refine tk 5 CS ?_ (y:=ty zD);refine tk 6 CS ?_;refine tk 7 CS ?_ (y:=ty ye);refine tk 8 CS ?_;refine tk 9 CS ?_ (y:=ty zQ);refine tk 10 CS ?_;refine tk 11 CS ?_ (y:=ty zW);refine tk 12 CS ?_;refine an (i:=13) zk rfl (fun K hK=> ?_);go_simp;refine hK _ _ (HV.o.2.2.2 _ _ _ _ _ _ _ _) ?_;clear hK K;refine wpAnyH_done zk ?_ _;refine qn ?_;go_wp2;exact bodyPost_ret (v:=.agg #[.int .i64 0,.int .i64 0,.int .i64 0,.int .u8 105,.int .i64 n0,.int .i64 n1,.string ⟨#[]⟩,.string x0]) (by simp [results,results34,go_sem,z0,z1,z2,z3,z4,z5,z6,z7]) rfl ⟨rfl,yl⟩
theorem Nl(w:World)(v0 v1 v2:Value)(r n0 n1:Int)(h:B8 w v0 v1 v2 ([r],[n0,n1],[])):
  Calls prog 35 #[.agg #[v0,v1,v2]] w (sY (0,0,0,100,n0,n1,⟨#[]⟩,⟨#[]⟩) w):=by
 obtain ⟨g1,c1,rfl,l1,h1⟩:=h.J zr;have dU:=h1 0 n0 rfl;have gZ:=h1 1 n1 rfl;obtain ⟨B2,h2⟩:=h.r2;obtain ⟨a2,c2,rfl⟩:=mC h2;obtain ⟨B0,h0⟩:=h.r0;obtain ⟨a0,q0,rfl⟩:=mC h0;have hV:=PC w [.slice a0 1 q0,.slice (some ⟨g1,0,none⟩) 2 c1,.slice a2 0 c2];have dU:=(hV _ rfl).1 _ _ dU;have gZ:=(hV _ rfl).1 _ _ gZ;have HV:Aside _:=(hV _ rfl).2;clear h h0 h1 h2 hV;go_enter func35,ntmps35;go_upto_region 1 with fail;generalize (w.alloc (.cells #[.slice a0 1 q0,.slice (some ⟨g1,0,none⟩) 2 c1,.slice a2 0 c2] 84)).alloc (.cells #[.int .i64 0,.int .i64 0,.int .i64 0,.int .u8 0,.int .i64 0,.int .i64 0,.string ⟨#[]⟩,.string ⟨#[]⟩] 88)=V at*
 obtain ⟨S,hS⟩:∃S,Aside (w.heap.size=S):=⟨_,rfl⟩
 rw [hS.o] at HV |-
 rw [hS.o] at l1;have s0:=HV.o.1.cell 0;have s1:=HV.o.1.cell 1;have s2:=HV.o.1.cell 2;simp only [uZ,Zb] at s0 s1 s2;obtain ⟨z0,z1,z2,z3,z4,z5,z6,z7,zf⟩:=HV.o.2.1
 have CS:Bg S V V.drew:=fun p v _ h=>h
 refine lV (S:=Bg S V) zk CS (fun aa=> ?_);refine tk 0 CS ?_;refine tk 1 CS ?_ (y:=ty zD);refine tk 2 CS ?_;refine tk 3 CS ?_ (y:=ty zO);refine tk 4 CS ?_;refine tk 5 CS ?_ (y:=ty zD);refine tk 6 CS ?_;refine tk 7 CS ?_ (y:=ty ye);refine tk 8 CS ?_;refine an (i:=9) zk rfl (fun K hK=> ?_);go_simp;refine hK _ _ (HV.o.2.2.2 _ _ _ _ _ _ _ _) ?_;clear hK K;refine wpAnyH_done zk ?_ _;refine qn ?_;go_wp2;exact bodyPost_ret (v:=.agg #[.int .i64 0,.int .i64 0,.int .i64 0,.int .u8 100,.int .i64 n0,.int .i64 n1,.string ⟨#[]⟩,.string ⟨#[]⟩]) (by simp [results,results35,go_sem,z0,z1,z2,z3,z4,z5,z6,z7]) rfl ⟨rfl,yl⟩
theorem Nd(w:World)(v0 v1 v2:Value)(r n0:Int)(x0 x1:ByteArray)(h:B8 w v0 v1 v2 ([r],[n0],[x0,x1])):
  Calls prog 36 #[.agg #[v0,v1,v2]] w (sY (0,0,0,115,n0,0,x0,x1) w):=by
 obtain ⟨g1,c1,rfl,l1,h1⟩:=h.J zr;have dU:=h1 0 n0 rfl;obtain ⟨g2,c2,rfl,l2,h2⟩:=h.aaf zr;have fp:=h2 0 x0 rfl;have k21:=h2 1 x1 rfl;obtain ⟨B0,h0⟩:=h.r0;obtain ⟨a0,q0,rfl⟩:=mC h0;have hV:=PC w [.slice a0 1 q0,.slice (some ⟨g1,0,none⟩) 1 c1,.slice (some ⟨g2,0,none⟩) 2 c2];have dU:=(hV _ rfl).1 _ _ dU;have fp:=(hV _ rfl).1 _ _ fp;have k21:=(hV _ rfl).1 _ _ k21;have HV:Aside _:=(hV _ rfl).2;clear h h0 h1 h2 hV;go_enter func36,ntmps36;go_upto_region 1 with fail;generalize (w.alloc (.cells #[.slice a0 1 q0,.slice (some ⟨g1,0,none⟩) 1 c1,.slice (some ⟨g2,0,none⟩) 2 c2] 84)).alloc (.cells #[.int .i64 0,.int .i64 0,.int .i64 0,.int .u8 0,.int .i64 0,.int .i64 0,.string ⟨#[]⟩,.string ⟨#[]⟩] 88)=V at*
 obtain ⟨S,hS⟩:∃S,Aside (w.heap.size=S):=⟨_,rfl⟩
 rw [hS.o] at HV |-
 rw [hS.o] at l1 l2;have s0:=HV.o.1.cell 0;have s1:=HV.o.1.cell 1;have s2:=HV.o.1.cell 2;simp only [uZ,Zb] at s0 s1 s2;obtain ⟨z0,z1,z2,z3,z4,z5,z6,z7,zf⟩:=HV.o.2.1
 have CS:Bg S V V.drew:=fun p v _ h=>h
 refine lV (S:=Bg S V) zk CS (fun aa=> ?_);refine tk 0 CS ?_;refine tk 1 CS ?_ (y:=ty zD);refine tk 2 CS ?_;refine tk 3 CS ?_ (y:=ty zO);refine tk 4 CS ?_;refine tk 5 CS ?_ (y:=ty zQ);refine tk 6 CS ?_;refine tk 7 CS ?_ (y:=ty zW);refine tk 8 CS ?_;refine tk 9 CS ?_ (y:=ty zQ);refine tk 10 CS ?_;refine tk 11 CS ?_ (y:=ty (by intro w' ab;have q:=ab ⟨g2,1,none⟩ _ (Nat.lt_succ_of_lt l2) k21;clear ab;go_simp;try with_reducible rfl));refine tk 12 CS ?_;refine an (i:=13) zk rfl (fun K hK=> ?_);go_simp;refine hK _ _ (HV.o.2.2.2 _ _ _ _ _ _ _ _) ?_;clear hK K;refine wpAnyH_done zk ?_ _;refine qn ?_;go_wp2;exact bodyPost_ret (v:=.agg #[.int .i64 0,.int .i64 0,.int .i64 0,.int .u8 115,.int .i64 n0,.int .i64 0,.string x0,.string x1]) (by simp [results,results36,go_sem,z0,z1,z2,z3,z4,z5,z6,z7]) rfl ⟨rfl,yl⟩
def FT(z:Nat)(P:List ByteArray)(w:qW)(e:Ending)(w':qW):Prop:=∃g cap,e= .returned (qG g P.length cap)/\P.length<=cap/\z<=cap/\Aside (∀j x,P[j]? =some x->w'.cell? (qA g j)=some (.string x))/\Aside (qL w w')
theorem Dq{w w'}{b n}{f}(h:F2 w b n f)(hb:qL w w'):F2 w' b n f:=h.same (hb.block _ h.lt)
theorem mg{w w'}{p}{v}(hb:qL w w')(h:w.cell? p=some v):w'.cell? p=some v:=by
 rw [hb.cell (p:=p) (uN w p h)];exact h
theorem Aside.mk'{p}(h:p):Aside p:=h
def Jw(a:Addr)(w:qW)(e:Ending)(w':qW):Prop:=e= .returned (.tuple #[.string ⟨#[]⟩,.iface 437 (.pointer (some a))])/\Aside (qL w w')
theorem OR(w)(z)(b n)(f)(E5 p0)(ps)(hM:F2 w b n f)(hW:qC 68 #[.string E5,.string ⟨#[32]⟩,qI 6] w (FT z (p0::ps) w))(h0:p0.size<=maxLen)(a)(hT:w.cell? (qB 1)=some (.iface 437 (.pointer (some a))))(hf:f p0.data.toList=none):
  qC 24 #[.map (some b),.string E5] w (Jw a w):=by
 go_enter func24,ntmps24;go_wp2_with fail;refine hW.mono ?_;rintro e w1 ⟨g,cap,rfl,hcap,hz,HC,HB⟩;have c0:=HC.o 0 p0 rfl;have bT:=(Dq hM HB.o).F p0 h0;rw [hf] at bT;unfold tW LU at bT;simp only [Option.getD_none,Yy] at bT;have hT1:=mg HB.o hT
 have HF:Aside (∀W,qL w1 W->qL w W):=fun W h=>zi HB.o h
 have hT2:∀o,(w1.alloc o).cell? (qB 1)=some (.iface 437 (.pointer (some a))):=fun o=>mg ((uM _ w1).alloc zg o) hT1
 go_upto_region 4 with fail;go_region
 all_goals (go_wp2;go_ret2;exact ⟨rfl,HF.o _ ((zh w1 _).drew)⟩)
def ObS(C g:Nat)(a:Addr)(form:qY)(fv:Value)(ps:List ByteArray)(w:qW):Prop:=p8 w C 63 [.string form,fv]/\EQ w (some (qA g 1)) ps/\w.cell? (qB 1)=some (.iface 437 (.pointer (some a)))
theorem ObS.later{C g}{a}{form}{fv}{ps}{w w'}(h:ObS C g a form fv ps w)(hb:qL w w'):ObS C g a form fv ps w':=
 ⟨h.1.later hb h.1.lt,fun i x hx=>by obtain ⟨blk,off,e,hc⟩:=h.2.1 i x hx;exact ⟨blk,off,e,mg hb hc⟩,mg hb h.2.2⟩
theorem B8.later{w w'}{v0 v1 v2}{s}(h:B8 w v0 v1 v2 s)(hb:qL w w'):B8 w' v0 v1 v2 s:=by
 obtain ⟨⟨B0,h0⟩,⟨B1,h1⟩,⟨B2,h2⟩⟩:=h;exact ⟨⟨B0,mD h0 (fun g hg=>hb.block g (h0.lt g hg).2)⟩,⟨B1,mD h1 (fun g hg=>hb.block g (h1.lt g hg).2)⟩,⟨B2,mD h2 (fun g hg=>hb.block g (h2.lt g hg).2)⟩⟩
theorem B8.put{w}{v0 v1 v2}{s}(h:B8 w v0 v1 v2 s){Z}{cs}(hZ:p8 w Z 84 cs)(x y z):B8 (((w.setCell (qB Z) x).setCell (qA Z 1) y).setCell (qA Z 2) z) v0 v1 v2 s:=by
 obtain ⟨⟨B0,h0⟩,⟨B1,h1⟩,⟨B2,h2⟩⟩:=h;have k0:=nJ h0 hZ tyI;have k1:=nJ h1 hZ tyI;have k2:=nJ h2 hZ tyS;exact ⟨⟨_,mz (mz (mz h0 k0) k0) k0⟩,⟨_,mz (mz (mz h1 k1) k1) k1⟩,⟨_,mz (mz (mz h2 k2) k2) k2⟩⟩
theorem Dg{X}{Z}{t}(hZ:p8 X Z t [.slice none 0 0,.slice none 0 0,.slice none 0 0]){b o}{v}(h:X.cell? ⟨b,o,none⟩=some v)(hv:∀p q r,v≠ .slice p q r)(x y z):(((X.setCell ⟨Z,0,none⟩ x).setCell ⟨Z,1,none⟩ y).setCell ⟨Z,2,none⟩ z).cell? ⟨b,o,none⟩=some v:=by
 have hb:b≠Z:=fun e=>by
  subst e;have hc:=hZ.cell o;rw [h] at hc
  match o with
  | 0=>cases hc;exact hv _ _ _ rfl
  | 1=>cases hc;exact hv _ _ _ rfl
  | 2=>cases hc;exact hv _ _ _ rfl
  | _+3=>cases hc
 simp_all [Zp,congrArg]
theorem zat{C g Z}{a}{form}{fv}{ps}{X}(h:ObS C g a form fv ps X)(hZ:p8 X Z 84 [qE,qE,qE])(hne:C≠Z)(x y z):ObS C g a form fv ps (((X.setCell (qB Z) x).setCell (qA Z 1) y).setCell (qA Z 2) z):=
 ⟨by
  have e:∀(W:qW) (o:Nat) (v:Value),(W.setCell (qA Z o) v).heap[C]? =W.heap[C]? :=fun W o v=>heap_setCell_other W (qA Z o) C v hne
  exact (e _ _ _).trans ((e _ _ _).trans ((e _ _ _).trans h.1)),fun i u hu=>by
  obtain ⟨blk,off,e,hc⟩:=h.2.1 i u hu
  grind [Dg],Dg hZ h.2.2 (fun _ _ _ q=>xP) _ _ _⟩
theorem zaC(w)(z)(b n)(f)(E5 p0)(ps)(hM:F2 w b n f)(hW:qC 68 #[.string E5,.string ⟨#[32]⟩,qI 6] w (FT z (p0::ps) w))(h0:p0.size<=maxLen)(a)(hT:w.cell? (qB 1)=some (.iface 437 (.pointer (some a))))(form)(fn)(bs)(aH:2<=z)(hf:f p0.data.toList=some (form,some (fn,bs)))(gh:form.size<=50)(bq:ps.length<=40)(hsz:∀x∈ps,x.size<=1000000)
  (eg:∀args w,(callFunc fn args).run prog w= .ok (.enter fn args) w) (Q:Lr->ByteArray->Value->World->Prop)
  (hD:∀x W v0 v1 v2,oQ form.data.toList ps=some x->qL w W->B8 W v0 v1 v2 x->VH w.heap.size v0 v1->Calls prog fn (#[.agg #[v0,v1,v2]]++(bs.map ptB).toArray) W fun e w'=>∃told ev,e=qT #[.string told,ev]/\Aside (Q x told ev w')):
  qC 24 #[.map (some b),.string E5] w fun e w'=>(oQ form.data.toList ps=none/\Jw a w e w')\/∃x told ev,oQ form.data.toList ps=some x/\e=qT #[.string told,ev]/\Aside (Q x told ev w'):=by
 go_enter func24,ntmps24;go_wp2_with fail;refine hW.mono ?_;rintro e w1 ⟨g,cap,rfl,hcap,hz,HC,HB⟩;have c0:=HC.o 0 p0 rfl;have bT:=(Dq hM HB.o).F p0 h0;rw [hf] at bT;unfold tW at bT;simp only [YP,Yz] at bT;have hT1:=mg HB.o hT
 have HWd:Aside (EQ w1 (some (qA g 1)) ps):=fun i x hx=>⟨g,1,rfl,by rw [Nat.add_comm];exact HC.o (i+1) x hx⟩
 have hl:((p0::ps).length:Int)=(ps.length:Int)+1:=zr;have HD:=Aside.mk' hD;generalize hcs:(bs.map ptB).toArray=cs at bT HD;go_upto_region 5 with fail;have hc2:¬cap=1:=zj;have hc3:(1:Int)<=(ps.length:Int)+1:=zj
 have S0:ObS w1.heap.size g a form (.func (.func fn) #[] cs) ps (w1.alloc (.cells #[.string form,.func (.func fn) #[] cs] 63)):=⟨mq w1 _ _,fun i x hx=>by obtain ⟨blk,off,e,hc⟩:=HWd.o i x hx;exact ⟨blk,off,e,mg (zh w1 _) hc⟩,mg (zh w1 _) hT1⟩
 have HB1:Aside (qL w (w1.alloc (.cells #[.string form,.func (.func fn) #[] cs] 63))):=HB.o.trans ((zh w1 _).mono HB.o.size)
 generalize w1.heap.size=C at S0 |-
 generalize w1.alloc (.cells #[.string form,.func (.func fn) #[] cs] 63)=V at S0 HB1 |-
 have CS:ObS C g a form (.func (.func fn) #[] cs) ps V.drew:=S0
 have jA:=fun (W:qW) (hW:ObS C g a form (.func (.func fn) #[] cs) ps W)=>Uy W form (some (qA g 1)) (cap - 1) ps hW.2.1 gh zj hsz
 have HRD:Aside _:=jA;have jr:Aside (qL w V.drew):=HB1.o.drew;go_cut [9,10] (fun s9 gW wx=>∃(Z:Nat) (v0 v1 v2:Value),s9=qP Z/\gW= .bool (oQ form.data.toList ps).isSome/\Aside (ObS C g a form (.func (.func fn) #[] cs) ps wx/\p8 wx Z 84 [v0,v1,v2]/\B8 wx v0 v1 v2 ((oQ form.data.toList ps).getD ([],[],[]))/\qL w wx/\VH w.heap.size v0 v1))
 case first=>
  refine lV (S:=ObS C g a form (.func (.func fn) #[] cs) ps) zk CS (fun aa=> ?_);refine tk 0 CS ?_;refine tk 1 CS ?_ (y:=ty (by intro w' ab;have q0:=ab.1.cell 1;have q0:=ab.1.cell 0;simp only [uZ] at q0;clear ab;go_simp;try with_reducible rfl));refine tk 2 CS ?_;refine tk 3 CS ?_;refine we (i:=4) (j:=8) zk rfl rfl (fun K hK=> ?ca) (fun K hK=> ?al)
  case ca=>
   go_simp;refine (HRD.o V.drew CS).mono ?_;rintro e w6 ⟨v0,v1,v2,rfl,H6⟩;have C6:=CS.later H6.o.1
   have HNV:Aside (VH w.heap.size v0 v1):=fun k q=>uO jr.o.size (H6.o.2.2 k q)
   refine hK _ _ C6 ?_;refine qn ?_;refine tk 5 C6 ?_;refine tk 6 C6 ?_;refine tk 7 C6 ?_;obtain ⟨X,hX⟩:=ze (w6.alloc (.cells #[qE,qE,qE] 84))
   have hbX:qL w6 X:=by rw [hX.o];exact zh w6 _
   have ZX:p8 X w6.heap.size 84 [qE,qE,qE]:=by rw [hX.o];exact mq w6 _ _
   have HX:Aside (B8 X v0 v1 v2 ((oQ form.data.toList ps).getD ([],[],[]))/\qL w X):=⟨H6.o.2.1.later hbX,(zi jr.o H6.o.1).trans (hbX.mono (zi jr.o H6.o.1).size)⟩
   have CX:=C6.later hbX
   have hne:C≠w6.heap.size:=by have:=C6.1.lt;omega
   refine an (i:=8) zk rfl (fun K hK=> ?_);go_simp;rw [<-hX.o];refine hK _ _ CX ?_;refine qn ?_;have hw0:=(zi jr.o H6.o.1).size
   generalize w6.heap.size=Z at ZX hne hw0 |-
   exact ka5
  case al=>
   obtain ⟨X,hX⟩:=ze ((V.alloc (.cells #[qE,qE,qE] 84)).drew)
   have hbX:Below V.drew.heap.size V.drew X:=by rw [hX.o];exact (uM _ V.drew).alloc zg _
   have ZX:p8 X V.drew.heap.size 84 [qE,qE,qE]:=by rw [hX.o];exact mq V _ _
   have hne:C≠V.drew.heap.size:=by have:=CS.1.lt;omega
   have CX:=CS.later hbX;have hw0:=jr.o.size;have km:Aside (qL w X):=zi jr.o hbX;go_simp;rw [<-hX.o];refine hK _ _ CX ?_;refine qn ?_;change w.heap.size<=V.heap.size at hw0;change C≠V.heap.size at hne;change p8 X V.heap.size _ _ at ZX
   generalize V.heap.size=Z at ZX hne hw0 |-
   refine an (i:=4) zk rfl (fun K hK=> ?_);go_simp;refine (HRD.o X CX).mono ?_;rintro e w6 ⟨v0,v1,v2,rfl,H6⟩;have C6:=CX.later H6.o.1
   have HNV:Aside (VH w.heap.size v0 v1):=fun k q=>uO km.o.size (H6.o.2.2 k q)
   refine hK _ _ C6 ?_;refine qn ?_;refine tk 5 C6 ?_;refine tk 6 C6 ?_;refine tk 7 C6 ?_;have ZY:=ZX.later H6.o.1 ZX.lt
   have HX:Aside (B8 w6 v0 v1 v2 ((oQ form.data.toList ps).getD ([],[],[]))/\qL w w6):=⟨H6.o.2.1,zi km.o H6.o.1⟩
   have CX:=C6;have ZX:=ZY
   generalize w6=X at CX ZX HX |-
   exact ka5
 obtain ⟨Z,v0,v1,v2,rfl,rfl,HE⟩:=hcut
 obtain ⟨o,ho⟩:∃o,Aside (oQ form.data.toList ps=o):=⟨_,rfl⟩
 rw [ho.o] at HE |-
 cases o with
 | none=>
  have hT2:=HE.o.1.2.2;have HF:Aside (qL w wc):=HE.o.2.2.2.1;simp only [Yy];go_upto_region 7 with fail;go_region
  all_goals (go_wp2;go_ret2;exact .inl ⟨ho.o,rfl,HF.o.drew⟩)
 | some x=>
  simp only [Yz];have q1:=HE.o.1.1.cell 1;have z0:=HE.o.2.1.cell 0;have z1:=HE.o.2.1.cell 1;have z2:=HE.o.2.1.cell 2;simp only [uZ,Zb] at q1 z0 z1 z2;have hc:=HD.o x wc v0 v1 v2 ho.o HE.o.2.2.2.1 HE.o.2.2.1 HE.o.2.2.2.2;go_wp2_with fail;refine hc.mono ?_;rintro e w9 ⟨told,ev,rfl,HQ⟩;go_wp2;go_ret2;exact .inr ⟨x,told,ev,ho.o,rfl,HQ.o⟩
def ox(s:qY):List ByteArray:=Lib.splitB ⟨#[32]⟩ 0 (min 6 (s.size+1) - 1) s
theorem Br(R6):∀(k:Nat) (s:qY),∀x∈Lib.splitB R6 0 k s,x.size<=s.size
 | 0,s,x,h=>by
  simp_all [Lib.splitB_zero,Zf,uL]
 | k+1,s,x,h=>by
  unfold Lib.splitB at h;split at h
  ·simp_all
  rcases uX.1 h with rfl | h
  ·rw [ByteArray.size_extract];omega
  have:=Br R6 k _ x h
  grind [ByteArray.size_extract]
theorem Nv(R6)(k)(s):Lib.splitB R6 0 k s≠ []:=by
 cases k with
 | zero=>rw [Lib.splitB_zero];simp
 | succ k=>unfold Lib.splitB;split<;>simp
theorem Dy(s):∃p ps,ox s=p::ps:=by
 cases h:ox s with
 | nil=>exact absurd h (Nv _ _ _)
 | cons p ps=>simp_all
theorem PL(s):(ox s).length<=6:=by
 grind [Lib.splitB_length_le,ox]
theorem IE(s)(m)(w)(hs:s.size<=1000000)(hm:w.cell? (qB 14)=some (qI m)):
  qC 68 #[.string s,.string ⟨#[32]⟩,qI 6] w (FT (min 6 (s.size+1)) (ox s) w):=by
 refine (Tryz.strings_SplitN s ⟨#[32]⟩ 6 m w zj hm zo zo zo).mono ?_;rintro e w' ⟨rfl,rfl⟩;refine ⟨_,_,rfl,?_,uL _,fun j p hj=> ?_,zh _ _⟩
 ·grind [Lib.splitB_length_le,ox]
 have hj2:=(uI.1 hj).1;rw [YB _ _ _ _ rfl];unfold Lib.cellsOf
 grind [ox,Yh]
theorem Dt(p):∀(l:qU) (k:Nat),(Lib.splitK [p] 0 (k+1) l).head? =(nF p l).head?
 | [],k=>by rw [ss];rfl
 | c::r,k=>by
  by_cases h:c=p
  ·subst h;rw [AR,rK];rfl
  rw [rt p k c r h,nC p c r h];have ih:=Dt p r k;obtain ⟨a,as_,ea⟩:=YV (Fg p (k+1) r);obtain ⟨b,bs,eb⟩:=YV (pO p r)
  grind [List.head?_cons,Option.some.injEq,hd]
theorem MO{l p}{ps}(e:ox l=p::ps):(nF 32 l.data.toList).head? =some p.data.toList:=by
 have hd:(ox l).map (·.data.toList)=Lib.splitK [32] 0 (min 6 (l.size+1) - 1) l.data.toList:=Lib.splitB_data ⟨#[32]⟩ 0 _ l;rw [e] at hd;have hl:l.data.toList.length=l.size:=zr
 rcases Nat.eq_zero_or_pos l.size with q | q
 ·have e0:l.data.toList= []:=Zg.1 zj;rw [e0,ss] at hd;rw [e0]
  have:p.data.toList= []:=by
   have:=congrArg List.head? hd;exact ko5
  rw [this];rfl
 obtain ⟨k,hk⟩:∃k,min 6 (l.size+1) - 1=k+1:=⟨min 6 (l.size+1) - 2,zj⟩
 grind [Dt]

end