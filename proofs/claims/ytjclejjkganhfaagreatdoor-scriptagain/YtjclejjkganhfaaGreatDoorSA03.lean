import Derived.Test.YtjclejjkganhfaaGreatDoorMacB
import Derived.Test.YtjclejjkganhfaaGreatDoorSA01
import Derived.Sort.LotA
import Derived.Maps.OwnSet
import Derived.Laws.IdiomCopy
import Derived.Laws.OwnMore
import Derived.Laws.AppendOwn
import Derived.Shelf.Spec.SlicesInsertGrow
import Derived.Lib.AppendZerosOnto
import Derived.Laws.NewBlocks
import Derived.RangeFuncNested
import Derived.RangeFuncBox
import Derived.RangeFuncLeaves
import Derived.OwnWalkIn
import Derived.TacticsInMore
import Derived.LoopNIn
import Derived.LoopIn
import Derived.Lib.Hide
import Derived.WalkSpells
import Derived.Sort.Grow
import Derived.WalkSmall
import Derived.RegionTactic
import Derived.Laws.Pointers
import Derived.Carry
import Derived.LaidEql
import Derived.Lib.AppendIntMem
import Derived.Lib.ItoaLen
import Derived.LoopN
import Derived.ChangeKeysEq
import Derived.Deep.RegionHeld3
import Derived.Laws.StructEq
set_option linter.unusedSimpArgs false
set_option linter.unusedVariables false
set_option maxRecDepth 100000
set_option maxHeartbeats 64000000
namespace Go.Proofs.YtjclejjkganhfaaGreatDoor
open Go.Proofs.Tryz
section
abbrev Ltr:=Int×Nat×Bool
def laid(x:Ltr):List Ltr->List Ltr
 | []=>[x]
 | h::t=>if x.1<h.1 then h::laid x t else x::h::t
def GH(b:Int)(x:Ltr):List Ltr->List Ltr
 | []=>[]
 | h::t=>if h.1=b then h::laid x t else h::GH b x t
def put(b:Int)(x:Ltr)(L:List Ltr):List Ltr:=if b=0 then laid x L else GH b x L
theorem nU{x h}(k:x.1<h.1)(t):laid x (h::t)=h::laid x t:=by simp [laid,k]
theorem tE{x h}(k:¬x.1<h.1)(t):laid x (h::t)=x::h::t:=by simp [laid,k]
theorem rO{b}{x h}(k:h.1=b)(t):GH b x (h::t)=h::laid x t:=by simp [GH,k]
theorem oJ{b}{x h}(k:h.1≠b)(t):GH b x (h::t)=h::GH b x t:=by simp [GH,k]
theorem tc(x y)(h:x.1≠y.1):∀L,laid y (laid x L)=laid x (laid y L)
 | []=>by
  grind [laid,nU,tE]
 | g::t=>by
  by_cases kx:x.1<g.1
  ·by_cases ky:y.1<g.1
   ·rw [nU kx,nU ky,nU ky,nU kx,tc x y h t]
   rw [nU kx,tE ky,tE ky,nU zj,nU kx]
  grind [tE,nU]
theorem rn(x y)(b)(h:x.1≠y.1)(hb:b≠x.1):∀L,GH b y (laid x L)=laid x (GH b y L)
 | []=>by
  rw [show laid x []= [x] from rfl,oJ (fun e=>hb e.symm)];rfl
 | g::t=>by
  by_cases kx:x.1<g.1
  ·rw [nU kx];by_cases kb:g.1=b
   ·rw [rO kb,rO kb,nU kx,tc x y h t]
   rw [oJ kb,oJ kb,nU kx,rn x y b h hb t]
  grind [tE,oJ,rO]
theorem GL(x y)(a b)(h:x.1≠y.1)(ha:a≠y.1)(hb:b≠x.1):∀L,GH b y (GH a x L)=GH a x (GH b y L)
 | []=>rfl
 | g::t=>by
  by_cases ka:g.1=a
  ·grind [rO,tc,oJ,rn]
  rw [oJ ka];by_cases kb:g.1=b
  ·grind [rO,oJ,rn]
  rw [oJ kb,oJ kb,oJ ka,GL x y a b h ha hb t]
theorem Ts(x y)(a b)(h:x.1≠y.1)(ha:a≠y.1)(hb:b≠x.1)(L):put b y (put a x L)=put a x (put b y L):=by
 unfold put;by_cases h0:a=0
 ·rw [if_pos h0,if_pos h0];by_cases h1:b=0
  ·rw [if_pos h1,if_pos h1,tc x y h]
  simp_all [if_neg,rn]
 rw [if_neg h0,if_neg h0];by_cases h1:b=0
 ·rw [if_pos h1,if_pos h1,rn y x a (fun e=>h e.symm) ha]
 simp_all [if_neg,GL]
def nu(s:List (Int×Ltr))(L:List Ltr):List Ltr:=s.foldl (fun L m=>put m.1 m.2 L) L
theorem pV(s r)(L):nu (s++r) L=nu r (nu s L):=by simp [nu]
theorem sj(m)(L):nu [m] L=put m.1 m.2 L:=rfl
theorem DS(m:Int×Ltr):∀(r:List (Int×Ltr)) (L:List Ltr),(∀y∈r,m.2.1≠y.2.1/\m.1≠y.2.1/\y.1≠m.2.1)->nu r (put m.1 m.2 L)=put m.1 m.2 (nu r L)
 | [],_,_=>rfl
 | y::r,L,h=>by
  obtain ⟨h1,h2,h3⟩:=h y zq
  show nu r (put y.1 y.2 (put m.1 m.2 L))=put m.1 m.2 (nu r (put y.1 y.2 L))
  rw [Ts m.2 y.2 m.1 y.1 h1 h2 h3];exact DS m r _ (fun z hz=>h z (by simp [hz]))
def Fz(s:List (Int×Ltr)):Prop:=(s.map (·.2.1)).Nodup/\(∀m∈s,m.2.1≠0)/\∀u m v,s=u++m::v->m.1=0\/∃y∈u,y.2.1=m.1
theorem EJ{s}{m}(h:Fz (s++ [m])):Fz s:=by
 obtain ⟨h1,h2,h3⟩:=h;rw [Zz] at h1;refine ⟨(ZM.1 h1).1,fun x hx=>h2 x (by simp [hx]),fun u x v e=>h3 u x (v++ [m]) (by rw [e];simp)⟩
theorem Md{s}{m}(h:Fz (s++ [m])):∀y∈s,y.2.1≠m.2.1/\y.1≠m.2.1:=by
 obtain ⟨h1,h2,h3⟩:=h;rw [Zz] at h1
 have hd:∀y∈s,y.2.1≠m.2.1:=fun y hy e=>(ZM.1 h1).2.2 _ (Zm.2 ⟨y,hy,rfl⟩) _ zq e
 intro y hy;refine ⟨hd y hy,fun e=> ?_⟩;obtain ⟨u,v,rfl⟩:=List.append_of_mem hy
 grind
theorem NS{u v}{m}(h:Fz (u++m::v))(hm:∀y∈v,y.1≠m.2.1):Fz (u++v):=by
 obtain ⟨h1,h2,h3⟩:=h;have dy:(u++v).Sublist (u++m::v):=List.Sublist.append_left (List.sublist_cons_self _ _) u;refine ⟨h1.sublist (dy.map _),fun x hx=>h2 x (dy.subset hx),fun a x b e=> ?_⟩
 rcases List.append_eq_append_iff.1 e with ⟨c,rfl,hc⟩ | ⟨c,rfl,hc⟩
 ·rcases h3 (u++m::c) x b (by rw [hc];simp) with h0 | ⟨z,hz,he⟩
  ·exact .inl h0
  grind
 cases c with
 | nil=>
  simp only [Ye,ZE] at hc h3 |-
  rcases h3 (a++ [m]) x b (by rw [<-hc];simp) with h0 | ⟨z,hz,he⟩
  ·exact .inl h0
  grind
 | cons y c=>
  injection hc with e1 e2;subst e1;exact h3 a x (c++m::v) zq
theorem sI{α:Type} :∀(l:List α),l= []\/∃s m,l=s++ [m]
 | []=>.inl rfl
 | x::t=>by
  rcases sI t with rfl | ⟨s,m,rfl⟩
  ·exact .inr ⟨[],x,rfl⟩
  exact .inr ⟨x::s,m,rfl⟩
theorem tn:∀(n:Nat) (s r:List (Int×Ltr)),s.length=n->s.Perm r->Fz s->Fz r->nu s []=nu r []
 | 0,s,r,hn,hp,_,_=>by
  simp_all
 | n+1,s,r,hn,hp,hs,hr=>by
  rcases sI s with rfl | ⟨s',m,rfl⟩
  ·simp at hn
  obtain ⟨u,v,rfl⟩:=List.append_of_mem (hp.mem_iff.1 (show m∈s'++ [m] by simp));have hl:=Md hs
  have dl:s'.Perm (u++v):=by
   have h1:=((List.perm_append_singleton m s').symm.trans hp).trans List.perm_middle;exact h1.cons_inv
  have hv:∀y∈v,y.2.1≠m.2.1/\y.1≠m.2.1:=fun y hy=>hl y (dl.mem_iff.2 (by simp [hy]))
  have hmv:∀y∈v,m.1≠y.2.1:=by
   intro y hy e;obtain ⟨h1,h2,h3⟩:=hr
   rcases h3 u m v rfl with h0 | ⟨z,hz,he⟩
   ·exact h2 y (by simp [hy]) (by rw [<-e,h0])
   rw [Zz,ZR] at h1;exact (ZM.1 h1).2.2 _ (Zm.2 ⟨z,hz,rfl⟩) _ (Za _ (Zm.2 ⟨y,hy,rfl⟩)) (by rw [he,e])
  have hr':=NS hr (fun y hy=>(hv y hy).2);have ih:=tn n s' (u++v) vp dl (EJ hs) hr';rw [pV,sj,ih,show u++m::v=u++([m]++v) by simp,pV,pV,pV,sj]
  grind [DS]
def ot(x:Int):List Ltr->Nat
 | []=>0
 | h::t=>if x<h.1 then ot x t+1 else 0
def oP(b:Int):List Ltr->Option Nat
 | []=>none
 | h::t=>if h.1=b then some 0 else (oP b t).map (· +1)
theorem Bo(x):∀L,ot x L<=L.length
 | []=>uM _
 | h::t=>by
  unfold ot;split
  ·have:=Bo x t;simp;omega
  omega
theorem FH{x} :∀ {L:List Ltr} {n:Nat},n<=L.length->(∀i l,i<n->L[i]? =some l->x<l.1)->(∀l,L[n]? =some l->¬x<l.1)->ot x L=n
 | [],n,hn,_,_=>by simp at hn;simp [ot,hn]
 | g::t,0,_,_,h2=>by
  unfold ot
  simp_all
 | g::t,n+1,hn,h1,h2=>by
  unfold ot;rw [if_pos (h1 0 g zj rfl),FH (n:=n) vp (fun i l hi e=>h1 (i+1) l zj yG) (fun l e=>h2 l yG)]
theorem IQ(x):∀L,laid x L=L.take (ot x.1 L)++x::L.drop (ot x.1 L)
 | []=>rfl
 | h::t=>by
  unfold ot;by_cases k:x.1<h.1
  ·rw [nU k,if_pos k,IQ x t];rfl
  rw [tE k,if_neg k];rfl
theorem oI{b} :∀ {L:List Ltr} {i:Nat},oP b L=some i->∃l,L[i]? =some l/\l.1=b
 | [],i,h=>by simp [oP] at h
 | g::t,i,h=>by
  unfold oP at h;split at h
  ·grind
  cases hf:oP b t with
  | none=>rw [hf] at h;cases h
  | some j=>
   rw [hf] at h
   cases h
   obtain ⟨l,h1,h2⟩:=oI hf
   simp_all
theorem An{b} :∀ {L:List Ltr},oP b L=none->∀l∈L,l.1≠b
 | [],_,l,hl=>by simp at hl
 | g::t,h,l,hl=>by
  unfold oP at h;split at h
  ·cases h
  have hf:oP b t=none:=xo
  rcases uZ.1 hl with rfl | hl
  ·assumption
  exact An hf l hl
theorem sR{b}{L}(h:b∈L.map (·.1)):∃i,oP b L=some i:=by
 cases hf:oP b L with
 | some i=>exact ⟨i,rfl⟩
 | none=>
  obtain ⟨l,hl,e⟩:=Zm.1 h;exact absurd e (An hf l hl)
theorem KB{b} :∀ {L:List Ltr} {i:Nat} {l:Ltr},L[i]? =some l->l.1=b->(∀j g,j<i->L[j]? =some g->g.1≠b)->oP b L=some i
 | [],i,l,e,_,_=>by simp at e
 | g::t,0,l,e,h,_=>by
  cases e
  unfold oP;rw [if_pos h]
 | g::t,i+1,l,e,h,hn=>by
  unfold oP;rw [if_neg (hn 0 g zj rfl),KB (L:=t) (i:=i) yG h (fun j g' hj e'=>hn (j+1) g' zj (by simpa using e'))];rfl
theorem Ot(b)(x):∀(L:List Ltr) (i:Nat),oP b L=some i->GH b x L=L.take (i+1+ot x.1 (L.drop (i+1)))++x::L.drop (i+1+ot x.1 (L.drop (i+1)))
 | [],i,h=>by simp [oP] at h
 | g::t,i,h=>by
  unfold oP at h;by_cases k:g.1=b
  ·rw [if_pos k] at h
   grind [ot,rO,IQ]
  rw [if_neg k] at h
  cases hf:oP b t with
  | none=>rw [hf] at h;cases h
  | some j=>
   rw [hf] at h
   cases h
   have e:j+1+1+ot x.1 ((g::t).drop (j+1+1))=j+1+ot x.1 (t.drop (j+1))+1:=by show j+1+1+ot x.1 (t.drop (j+1))=_;omega
   rw [oJ k,Ot b x t j hf,e];rfl
def tV(b id:Int)(L:List Ltr):Nat:=if b=0 then ot id L else match oP b L with
 | none=>0
 | some i=>i+1+ot id (L.drop (i+1))
theorem QT{b}{x}{L}(h:b=0\/b∈L.map (·.1)):tV b x.1 L<=L.length/\put b x L=L.take (tV b x.1 L)++x::L.drop (tV b x.1 L):=by
 unfold put tV;by_cases h0:b=0
 ·simp_all [if_pos,Bo,IQ]
 rw [if_neg h0,if_neg h0]
 grind [sR,oI,Bo,ZL,Ot]
theorem BE{b}{x}{L}(h:b=0\/b∈L.map (·.1)):(put b x L).Perm (x::L):=by
 rw [(QT h).2]
 grind [ZA]
theorem zaA{b}{x}{L}(h:b=0\/b∈L.map (·.1)):(put b x L).length=L.length+1:=by rw [(BE h).length_eq];rfl
theorem Ow{b}{x}{L}(h:b=0\/b∈L.map (·.1)):((put b x L).map (·.1)).Perm (x.1::L.map (·.1)):=(BE h).map _
def Y3(id:Int)(L:List Ltr):List Ltr:=L.map fun l=>if l.1=id then (l.1,l.2.1,true) else l
def nX(L:List Ltr):List Ltr:=L.filter fun l=> !l.2.2
def Xi(p:Ltr->Bool)(zs:List Ltr)(r:Int):Prop:=
 (r= -1/\∀l∈zs,p l=false)\/∃(i:Nat) (l:Ltr),r=(i:Int)/\zs[i]? =some l/\p l=true/\∀j g,j<i->zs[j]? =some g->p g=false
def DD(b:Int)(L:List Ltr):Int:=match oP b L with
 | none=> -1
 | some i=>(i:Int)
theorem Vg{b r}{L}(h:Xi (fun l=>decide (l.1=b)) L r):r=DD b L:=by
 unfold DD
 rcases h with ⟨rfl,h⟩ | ⟨i,l,rfl,hl,hp,hn⟩
 ·grind [oP,oI,uR]
 rw [KB hl (by simpa using hp) (fun j g hj hg=>zN)]
theorem sX{b}{L}(h:b∉L.map (·.1)):DD b L= -1:=by
 grind [DD,oP,oI,uR]
theorem Hi{b}{L}(h:b∈L.map (·.1)):∃i:Nat,DD b L=(i:Int)/\oP b L=some i/\i<L.length:=by
 grind [sR,oI,DD]
theorem zaZ{id r}{L}(hn:id∉L.map (·.1))(h:Xi (fun l=>decide (l.1<id)) L r):(r= -1/\ot id L=L.length)\/r=(ot id L:Int):=by
 have hne:∀l∈L,l.1≠id:=fun l hl e=>hn (Zm.2 ⟨l,hl,e⟩)
 rcases h with ⟨rfl,h⟩ | ⟨i,l,rfl,hl,hp,hq⟩
 ·refine .inl ⟨rfl,FH zg (fun i l _ e=> ?_) (fun l e=>by simp at e)⟩
  grind
 right;rw [FH (n:=i) (Yz (uK.1 hl).1) (fun j g hj e=> ?_) (fun g e=> ?_)]
 ·have h1:=hq j g hj e;have h2:=hne g (uR e);simp at h1;omega
 grind
def bare(l:Ltr):Ltr:=if l.2.2 then (l.1,0,true) else l
theorem zbD{L:List Ltr}{i}{l}(h:L[i]? =some l)(c)(g):(L.set i (l.1,c,g)).map (·.1)=L.map (·.1):=by
 rw [List.map_set];apply List.ext_getElem?
 grind
theorem OA{b}{x}{L}(h:b=0\/b∈L.map (·.1))(hn:(L.map (·.1)).Nodup)(hx:x.1∉L.map (·.1)):((put b x L).map (·.1)).Nodup:=by
 grind [Ow]
end
section
abbrev Plc:=Int×Int×ByteArray
abbrev Sta:=Int->Option Plc
abbrev Mov:=(Int×Int)×Plc
def mM:Plc:=(0,0,⟨#[]⟩)
def tB:Sta:=fun _=>none
def TV(f:Sta):Nat->Int->Int->Bool
 | 0,_,_=>false
 | n+1,l8,of=>match f l8 with
  | none=>false
  | some p=>decide (p.2.1=of) ||TV f n p.2.1 of
def Ins(f:Sta)(l8 of:Int):Prop:=∃n,TV f n l8 of=true
theorem Fc{f}{l8}(h:f l8=none)(n)(of):TV f n l8 of=false:=by
 cases n<;>simp [TV,h]
theorem wT{f}{l8}{p}(h:f l8=some p)(n)(of):TV f (n+1) l8 of=(decide (p.2.1=of) ||TV f n p.2.1 of):=by
 simp [TV,h]
theorem FE{f}{l8 of}(h:f l8=none):¬Ins f l8 of:=by
 rintro ⟨n,hn⟩;rw [Fc h] at hn
 cases hn
theorem FB{f}{l8 of}{p}(h:f l8=some p):Ins f l8 of↔p.2.1=of\/Ins f p.2.1 of:=by
 constructor
 ·rintro ⟨n,hn⟩
  cases n with
  | zero=>simp [TV] at hn
  | succ n=>
   rw [wT h,Bool.or_eq_true] at hn;exact hn.imp zq (fun e=>⟨n,e⟩)
 rintro (e | ⟨n,hn⟩)
 ·exact ⟨1,by rw [wT h];simp [e]⟩
 exact ⟨n+1,by rw [wT h,hn];simp⟩
def Pw(f:Sta)(d:Int->Nat):Prop:=∀k p,f k=some p->d p.2.1<d k
theorem zb9{f}{x y}{p}(h:f x=some p)(hy:p.2.1=y\/Ins f p.2.1 y):Ins f x y:=(FB h).2 hy
def upd(f:Sta)(k:Int)(v:Option Plc):Sta:=fun x=>if x=k then v else f x
theorem sN(f)(k)(v):upd f k v k=v:=by simp [upd]
theorem pO{f}{k x}{v}(h:x≠k):upd f k v x=f x:=by simp [upd,h]
structure P1 (p:Plc):Prop where
 ne:p.1≠0
 lo:0<=p.1
 hi:p.1<2^62
 lo':0<=p.2.1
 hi':p.2.1<2^62
 sz:p.2.2.size<=60
theorem P1.acr{p}(h:P1 p):p≠mM:=fun e=>h.ne uH
structure AV (f:Sta):Prop where
 abS:∃d,Pw f d
 T9:∀k p,f k=some p->p.1=k
 Y5:∀k p,f k=some p->P1 p
theorem zbx:AV tB:=⟨⟨fun _=>0,fun k p h=>ve⟩,fun k p h=>ve,fun k p h=>ve⟩
def IX(f:Sta)(p:Plc):Prop:=p.1=p.2.1\/Ins f p.2.1 p.1
def K8[∀(f:Sta) (p:Plc),Decidable (IX f p)](f:Sta)(m:Mov):Sta:=if IX f m.2 then f else upd f m.2.1 (some m.2)
open scoped Classical
theorem oF{f}{m}(h:IX f m.2):K8 f m=f:=by unfold K8;rw [if_pos h]
theorem ng{f}{m}(h:¬IX f m.2):K8 f m=upd f m.2.1 (some m.2):=by unfold K8;rw [if_neg h]
theorem Ln{f}{m}{x}(h:x≠m.2.1):K8 f m x=f x:=by
 by_cases hi:IX f m.2
 ·rw [oF hi]
 rw [ng hi,pO h]
theorem RF{f}{m}(G:AV f)(hm:P1 m.2):AV (K8 f m):=by
 by_cases hi:IX f m.2
 ·rw [oF hi];exact G
 rw [ng hi];obtain ⟨s,c,q,nm⟩:=m
 dsimp only at hi hm |-
 have hcq:c≠q:=fun e=>hi (.inl e)
 have hqc:¬Ins f q c:=fun e=>hi (.inr e)
 refine ⟨?_,fun k p h=> ?_,fun k p h=> ?_⟩
 ·obtain ⟨d,hd⟩:=G.abS
  classical
  refine ⟨fun x=>if x=c\/Ins f x c then d x+d q+1 else d x,fun k p h=> ?_⟩;by_cases hk:k=c
  ·subst hk;rw [sN] at h
   grind
  rw [pO hk] at h;have h1:=hd k p h;dsimp only;by_cases hp:p.2.1=c\/Ins f p.2.1 c
  ·rw [if_pos hp,if_pos (.inr (zb9 h hp))];omega
  grind
 ·by_cases hk:k=c
  ·subst hk;rw [sN] at h;cases h;rfl
  rw [pO hk] at h;exact G.T9 k p h
 by_cases hk:k=c
 ·grind [sN]
 rw [pO hk] at h;exact G.Y5 k p h
def XO(f:Sta)(l8:Int)(fr:Plc):Sta:=upd f l8 (if fr=mM then none else some fr)
theorem QN{f}{m}(G:AV f):XO (K8 f m) m.2.1 ((f m.2.1).getD mM)=f:=by
 funext x;unfold XO;by_cases hx:x=m.2.1
 ·subst hx;rw [sN]
  cases h:f m.2.1 with
  | none=>simp
  | some p=>
   rw [YS,if_neg (G.Y5 _ p h).acr]
 rw [pO hx,Ln hx]
def BG[∀(f:Sta) (p:Plc),Decidable (IX f p)](f:Sta)(ms:List Mov):Sta:=ms.foldl K8 f
theorem Lg(f)(ms)(m):BG f (ms++ [m])=K8 (BG f ms) m:=by simp [BG]
theorem Fi:∀(ms:List Mov) (f:Sta),AV f->(∀m∈ms,P1 m.2)->AV (BG f ms)
 | [],_,G,_=>G
 | m::r,f,G,h=>Fi r (K8 f m) (RF G (h m zq)) (fun x hx=>h x (by simp [hx]))
def mX[∀(f:Sta) (p:Plc),Decidable (IX f p)](ms:List Mov):Sta:=BG tB ms
theorem rm{ms}(h:∀m∈ms,P1 m.2):AV (mX ms):=Fi ms _ zbx h
theorem Ob(ms)(m):mX (ms++ [m])=K8 (mX ms) m:=Lg _ _ _
theorem Gr{ms:List Mov}{i}{m}(h:ms[i]? =some m):mX (ms.take (i+1))=K8 (mX (ms.take i)) m:=by
 rw [ZF,h];exact Ob _ _
def Ae[∀(f:Sta) (p:Plc),Decidable (IX f p)](ms:List Mov)(i:Nat):Plc:=match ms[i]? with
 | none=>mM
 | some m=>(mX (ms.take i) m.2.1).getD mM
def SLt(a b:Int×Int):Prop:=a.1<b.1\/(a.1=b.1/\a.2<b.2)
theorem ES{a} :¬SLt a a:=by unfold SLt;omega
theorem tj{a b c}(h:SLt a b)(k:SLt b c):SLt a c:=by unfold SLt at*;omega
theorem RX{a b}(h:a≠b)(k:¬SLt a b):SLt b a:=by
 grind [SLt]
def ml(ms:List Mov):Prop:=ms.Pairwise (fun a b=>SLt a.1 b.1)
def si(ms:List Mov)(i:Nat)(m:Mov):List Mov:=ms.take i++m::ms.drop i
theorem AL(ms)(i)(m):(si ms i m).Perm (m::ms):=by
 grind [si,List.perm_middle,ZA]
theorem Ge(ms)(i)(m):(si ms i m).length=ms.length+1:=by
 rw [(AL ms i m).length_eq];rfl
theorem UN{ms}{i}{m}(h:ml ms)(h1:∀x∈ms.take i,SLt x.1 m.1)(h2:∀x∈ms.drop i,SLt m.1 x.1):ml (si ms i m):=by
 unfold ml si;rw [List.pairwise_append];refine ⟨h.sublist (List.take_sublist _ _),Zw.2 ⟨h2,h.sublist (List.drop_sublist _ _)⟩,fun a ha b hb=> ?_⟩
 grind [tj]
theorem NV{ms}{i}{m}(hi:i<=ms.length):(si ms i m).take i=ms.take i:=by
 grind [si,Nat.min_self]
theorem sd:∀ {l l':List Mov},l.Perm l'->ml l->ml l'->l=l'
 | [],l',hp,_,_=>zM
 | a::r,[],hp,_,_=>zM
 | a::r,b::r',hp,h,h'=>by
  obtain ⟨h1,h2⟩:=Zw.1 h;obtain ⟨h1',h2'⟩:=Zw.1 h'
  have e:a=b:=by
   rcases uZ.1 (hp.mem_iff.1 (Zq (a:=a) (l:=r))) with e | ha
   ·exact e
   grind [Zq,tj,ES]
  subst e;rw [sd (List.perm_cons a |>.1 hp) h2 h2']
structure D4 (f:Sta) (L:List Plc):Prop where
 K7:L.Pairwise (fun a b=>a.1<b.1)
 U7:∀p,p∈L↔f p.1=some p
theorem wV:∀ {L L':List Plc},L.Pairwise (fun a b=>a.1<b.1)->L'.Pairwise (fun a b=>a.1<b.1)->(∀p,p∈L↔p∈L')->L=L'
 | [],[],_,_,_=>rfl
 | [],b::r',_,_,h=>xg
 | a::r,[],_,_,h=>xf
 | a::r,b::r',hl,eK,h=>by
  obtain ⟨h1,h2⟩:=Zw.1 hl;obtain ⟨h1',h2'⟩:=Zw.1 eK
  have e:a=b:=by
   rcases uZ.1 ((h a).1 zq) with e | ha
   ·exact e
   rcases uZ.1 ((h b).2 zq) with e | hb
   ·exact e.symm
   have x:=h1 b hb;have y:=h1' a ha;omega
  subst e;rw [wV h2 h2' (fun p=> ?_)]
  grind
theorem D4.q{f}{L L'}(h:D4 f L)(h':D4 f L'):L=L':=
 wV h.K7 h'.K7 (fun p=>(h.U7 p).trans (h'.U7 p).symm)
end
section
open Maps
def mW(p:Plc):List Value:=[qI p.1,qI p.2.1,.string p.2.2]
def pS(p:Plc):Value:=.agg #[qI p.1,qI p.2.1,.string p.2.2]
theorem Uu{p q}(h:pS p=pS q):p=q:=by
 grind [pS]
def dat(p:Plc):DataW Unit:=.agg [.lit (.int .i64 p.1),.lit (.int .i64 p.2.1),.lit (.string p.2.2.data.toList)]
theorem IM{p q}(h:dat p=dat q):p=q:=by
 obtain ⟨a,b,⟨⟨s⟩⟩⟩:=p
 simp_all [dat]
def zdN(l:List Value):Option (DataW Unit×List MemPlace):=match l with
 | [.int .i64 a,.int .i64 b,.string s]=>some (dat (a,b,s),[])
 | _=>none
def XQ(v:Value):Option (DataW Unit×List MemPlace):=match v with
 | .agg cs=>zdN cs.toList
 | _=>none
theorem KX(p):XQ (pS p)=some (dat p,[]):=rfl
theorem Td{l}{z}(h:zdN l=some z):∃p:Plc,l= [qI p.1,qI p.2.1,.string p.2.2]/\z=(dat p,[]):=by
 unfold zdN at h
 grind
theorem BD{v}{z}(h:XQ v=some z):∃p,v=pS p/\z=(dat p,[]):=by
 unfold XQ at h;split at h
 ·rename_i cs;obtain ⟨p,e,rfl⟩:=Td h;refine ⟨p,?_,rfl⟩;unfold pS;rw [<-e]
 cases h
def Wf(k:Int):Prop:=(Lit.int .i64 k).wf=true
theorem Eg{k}(h0: -2^63<=k)(h1:k<2^63):Wf k:=by
 unfold Wf;exact ki5
theorem tF{p}(h:P1 p):Wf p.1/\Wf p.2.1:=by
 have h1:=h.lo;have h2:=h.hi;have h3:=h.lo';have h4:=h.hi'
 grind [Eg]
theorem zcE{f}(G:AV f){k}{p}(h:f k=some p):Wf k:=by
 have:=(tF (G.Y5 k p h)).1;rwa [G.T9 k p h] at this
def J6(D:DataW Unit)(f:Sta):Prop:=∀k,Wf k->match f k with
 | none=>has D (.int .i64 k)=false
 | some p=>∀z,D.atKey (.int .i64 k) z=dat p
theorem J6.none{D}{f}(h:J6 D f){k}(hk:Wf k)(hf:f k=none):has D (.int .i64 k)=false:=by
 exact kk3
theorem J6.some{D}{f}(h:J6 D f){k}(hk:Wf k){p}(hf:f k=some p)(z):D.atKey (.int .i64 k) z=dat p:=by
 exact kk3
theorem J6.has{D}{f}(h:J6 D f){k}(hk:Wf k):Maps.has D (.int .i64 k)=(f k).isSome:=by
 cases hf:f k with
 | none=>rw [h.none hk hf];rfl
 | some p=>rw [has_true_of_atKey (h.some hk hf)];rfl
theorem J6.at{D}{f}(h:J6 D f){k}(hk:Wf k):D.atKey (.int .i64 k) (dat mM)=dat ((f k).getD mM):=by
 cases hf:f k with
 | none=>rw [atKey_of_not_has (h.none hk hf)];rfl
 | some p=>rw [h.some hk hf];rfl
theorem DY{a b}(h:a≠b):Lit.int .i64 a≠Lit.int .i64 b:=fun e=>h (by injection e)
section
variable {P:Program} {K E T:TypeId}
def sE(P:Program)(K:TypeId)(w:qW)(b n:Nat)(f:Sta):Prop:=∃D,w.ownsMap P K XQ b n D/\J6 D f
theorem sE.lt{w}{b n}{f}(h:sE P K w b n f):b<w.heap.size:=by
 obtain ⟨D,h,_⟩:=h;exact h.lt
theorem sE.mono{w}{b n n'}{f}(h:sE P K w b n f)(hn:n<=n'):sE P K w b n' f:=by
 obtain ⟨D,h,r⟩:=h;exact ⟨D,h.mono hn,r⟩
theorem sE.same{w w'}{b n}{f}(h:sE P K w b n f)(e:w'.heap[b]? =w.heap[b]?):sE P K w' b n f:=by
 exact ko2
theorem sE.block{w}{b n}{f}(h:sE P K w b n f):∃es aM,w.heap[b]? =some (.map es aM):=by
 obtain ⟨D,⟨es,aM,hb,F⟩,r⟩:=h
 simp_all
theorem NG(w:qW):sE P K (w.alloc (.map #[] 0)) w.heap.size 0 tB:=
 ⟨_,YY w P K XQ,fun _ _=>rfl⟩
theorem sE.A{w}{b n}{f}(h:sE P K w b n f)(hK:P.underlying K=some (.int .i64))(hT:P.underlying T=some (.map K E))(hz:(zeroValue E).run P w= .ok (pS mM) w){k}(hk:Wf k):
  (Instr.lookup T (.map (some b)) (qI k) true).run P w= .ok (.tuple #[pS ((f k).getD mM),.bool (f k).isSome]) w:=by
 obtain ⟨D,h,r⟩:=h;obtain ⟨v,ps,ae,hv⟩:=h.look_ok (int_keyed hK) hT hz (KX mM) (keyOf_int_mk hK hk);obtain ⟨p,rfl,hp⟩:=BD hv;rw [r.at hk,Prod.mk.injEq] at hp;rw [ae,r.has hk,IM hp.1]
theorem sE.abN{w}{b n}{f}(h:sE P K w b n f)(hK:P.underlying K=some (.int .i64))(hT:P.underlying T=some (.map K E))(hz:(zeroValue E).run P w= .ok (pS mM) w){k}(hk:Wf k):
  (Instr.lookup T (.map (some b)) (qI k) false).run P w= .ok (pS ((f k).getD mM)) w:=by
 obtain ⟨D,h,r⟩:=h;obtain ⟨v,ps,ae,hv⟩:=h.lookup (int_keyed hK) hT hz (KX mM) (keyOf_int_mk hK hk);obtain ⟨p,rfl,hp⟩:=BD hv;rw [r.at hk,Prod.mk.injEq] at hp;rw [ae,IM hp.1]
theorem ST{D}{f}(h:J6 D f)(hD:IsMap D)(k)(p):J6 (D.put (.int .i64 k) (dat p)) (upd f k (some p)):=by
 intro x hx;by_cases e:x=k
 ·subst e;rw [sN];exact kn3
 rw [pO e]
 cases hf:f x with
 | none=>rw [has_put_other (DY e)];exact h.none hx hf
 | some q=>intro z;rw [atKey_put_other (DY e)];exact h.some hx hf z
theorem Sk{D}{f}(h:J6 D f)(k):J6 (D.del (.int .i64 k)) (upd f k none):=by
 intro x hx;by_cases e:x=k
 ·grind [sN,has_del_same]
 rw [pO e]
 cases hf:f x with
 | none=>rw [has_del_other (DY e)];exact h.none hx hf
 | some q=>intro z;rw [atKey_del_other (DY e)];exact h.some hx hf z
theorem sE.store{w}{b n}{f}(h:sE P K w b n f)(hK:P.underlying K=some (.int .i64))(hT:P.underlying T=some (.map K E))(hn:n<maxLen){k}(hk:Wf k)(p):
  ∃w',(Instr.mapUpdate T (.map (some b)) (qI k) (pS p)).run P w= .ok () w'/\sE P K w' b (n+1) (upd f k (some p))/\w.mapTurned w' b:=by
 obtain ⟨D,h,r⟩:=h;obtain ⟨w',ae,h',ht⟩:=h.store (int_keyed hK) hT hn (keyOf_int_mk hK hk) (KX p);exact ⟨w',ae,⟨_,h',ST r h.isMap k p⟩,ht⟩
theorem sE.drop{w}{b n}{f}(h:sE P K w b n f)(hK:P.underlying K=some (.int .i64))(hT:P.underlying T=some (.map K E)){k}(hk:Wf k)(ty):
  ∃w',(Builtin.delete_ #[T,K] ty #[.map (some b),qI k]).run P w= .ok (.tuple #[]) w'/\sE P K w' b n (upd f k none)/\w.mapTurned w' b:=by
 obtain ⟨D,h,r⟩:=h;obtain ⟨w',ae,h',ht⟩:=h.drop (int_keyed hK) hT (keyOf_int_mk hK hk) ty;exact ⟨w',ae,⟨_,h',Sk r k⟩,ht⟩
end
end
section
open scoped Classical
abbrev Ent:=Mov×Plc
structure N6 (ms:List Mov) (i:Nat) (L:List Ent):Prop where
 abk:L.map (·.1)=ms
 S8:∀j x,j<i->L[j]? =some x->x.2=Ae ms j
theorem N6.y9{ms}{i}{L}(h:N6 ms i L):L.length=ms.length:=by rw [<-h.abk];simp
theorem N6.mov{ms}{i j:Nat}{L}(h:N6 ms i L){x}(hx:L[j]? =some x):ms[j]? =some x.1:=by rw [<-h.abk];simp [hx]
theorem Sc:N6 [] 0 []:=⟨rfl,fun _ _ h=>zj⟩
theorem Bb{ms}{i}{m}(h:ms[i]? =some m):Ae ms i=(mX (ms.take i) m.2.1).getD mM:=by unfold Ae;rw [h]
theorem Gt{ms ms'}{i}(h:ms.take (i+1)=ms'.take (i+1)):Ae ms i=Ae ms' i:=by
 have h1:ms[i]? =ms'[i]? :=by
  have e1:(ms.take (i+1))[i]? =ms[i]? :=by rw [Yj,if_pos zj]
  have e2:(ms'.take (i+1))[i]? =ms'[i]? :=by rw [Yj,if_pos zj]
  rw [<-e1,<-e2,h]
 have h2:ms.take i=ms'.take i:=by
  have e1:(ms.take (i+1)).take i=ms.take i:=xx;have e2:(ms'.take (i+1)).take i=ms'.take i:=xx;rw [<-e1,<-e2,h]
 unfold Ae;rw [h1,h2]
def RL(L:List Ent)(i:Nat)(x:Ent):List Ent:=L.take i++x::L.drop i
theorem VE{ms}{L}{i}{m}(h:N6 ms ms.length L)(hi:i<=ms.length)(fr):N6 (si ms i m) i (RL L i (m,fr)):=by
 refine ⟨?_,fun j x hj hx=> ?_⟩
 ·unfold RL si;simp [<-h.abk,List.map_take,List.map_drop]
 have bD:L[j]? =some x:=by
  unfold RL at hx;rwa [Yh (by simp;have:=h.y9;omega),Yj,if_pos hj] at hx
 rw [h.S8 j x zj bD];refine Gt ?_;unfold si
 grind
theorem zct{ms}{L}{i}{x}(h:N6 ms i L)(hx:L[i]? =some x):N6 ms (i+1) (L.set i (x.1,Ae ms i)):=by
 refine ⟨?_,fun j y hj hy=> ?_⟩
 ·rw [<-h.abk,List.map_set];apply List.ext_getElem?
  grind
 by_cases e:j=i
 ·grind
 rw [List.getElem?_set_ne zj] at hy;exact h.S8 j y zj hy
def Ie(ms:List Mov)(s:Int×Int)(i:Nat)(b:Bool):Prop:=
 (b=true/\∃m,ms[i]? =some m/\m.1=s)\/(b=false/\i<=ms.length/\(∀x∈ms.take i,SLt x.1 s)/\∀x∈ms.drop i,SLt s x.1)
def MM(ms:List Mov)(s:Int×Int)(i:Nat):Prop:=∀x∈ms.drop i,SLt s x.1
theorem Oa(ms)(s):MM ms s ms.length:=fun x hx=>ya
theorem La{ms}{s}{i}{m}(h:ms[i]? =some m)(e:m.1=s):Ie ms s i true:=.inl ⟨rfl,m,h,e⟩
theorem Ll{ms}{s}{i}{m}(hb:ml ms)(hl:MM ms s (i+1))(h:ms[i]? =some m)(e:SLt m.1 s):Ie ms s (i+1) false:=by
 have hi:=(uK.1 h).1;refine .inr ⟨rfl,zj,fun x hx=> ?_,hl⟩;rw [ZF,h] at hx
 rcases uU.1 hx with hx | hx
 ·refine tj ?_ e
  have hp:(ms.take i++ms.drop i).Pairwise (fun a b=>SLt a.1 b.1):=by rw [ZA];exact hb
  refine (List.pairwise_append.1 hp).2.2 x hx m ?_;rw [List.mem_iff_getElem?];exact ⟨0,by rw [ZT,ZG,h]⟩
 simp_all
theorem ML{ms}{s}{i}{m}(hl:MM ms s (i+1))(h:ms[i]? =some m)(ne:m.1≠s)(nl:¬SLt m.1 s):MM ms s i:=by
 intro x hx
 have hi:=(uK.1 h)
 rw [Yg hi.1] at hx
 rcases uZ.1 hx with rfl | hx
 ·rw [hi.2];exact RX ne nl
 exact hl x hx
theorem IA{ms}{s}(hl:MM ms s 0):Ie ms s 0 false:=.inr ⟨rfl,uW _,fun x hx=>ya,hl⟩
theorem Nf{ms}{s}{i}{b}(h:Ie ms s i b)(hn:∀m∈ms,m.1≠s):b=false/\i<=ms.length/\(∀x∈ms.take i,SLt x.1 s)/\∀x∈ms.drop i,SLt s x.1:=by
 rcases h with ⟨_,m,hm,e⟩ | h
 ·grind
 exact h
end
section
open Maps
abbrev XK:=Int->Option Nat
def noT:XK:=fun _=>none
def AN(p:Option Nat):Value:=.pointer (p.map fun b=>(qB b))
def Np(p:Option Nat):DataW Unit:=match p with
 | none=>.agg []
 | some b=>.agg [.lit (.int .i64 (b:Int))]
theorem KG{p q}(h:Np p=Np q):p=q:=by
 cases p<;>cases q<;>simp [Np] at h |-
 omega
def WI(v:Value):Option (DataW Unit×List MemPlace):=match v with
 | .pointer none=>some (Np none,[])
 | .pointer (some ⟨b,0,none⟩)=>some (Np (some b),[])
 | _=>none
theorem Ji(p):WI (AN p)=some (Np p,[]):=by cases p<;>rfl
theorem EE{v}{z}(h:WI v=some z):∃p,v=AN p/\z=(Np p,[]):=by
 unfold WI at h;split at h
 ·cases h;exact ⟨none,rfl,rfl⟩
 ·cases h;exact ⟨some _,rfl,rfl⟩
 cases h
def Q4(D:DataW Unit)(f:XK):Prop:=∀k,Wf k->match f k with
 | none=>has D (.int .i64 k)=false
 | some p=>∀z,D.atKey (.int .i64 k) z=Np (some p)
theorem Q4.Y3{D}{f}(h:Q4 D f){k}(hk:Wf k)(hf:f k=none):has D (.int .i64 k)=false:=by
 exact kk3
theorem Q4.held{D}{f}(h:Q4 D f){k}(hk:Wf k){p}(hf:f k=some p)(z):D.atKey (.int .i64 k) z=Np (some p):=by
 exact kk3
theorem Q4.has{D}{f}(h:Q4 D f){k}(hk:Wf k):Maps.has D (.int .i64 k)=(f k).isSome:=by
 cases hf:f k with
 | none=>rw [h.Y3 hk hf];rfl
 | some p=>rw [has_true_of_atKey (h.held hk hf)];rfl
theorem Q4.at{D}{f}(h:Q4 D f){k}(hk:Wf k):D.atKey (.int .i64 k) (Np none)=Np (f k):=by
 cases hf:f k with
 | none=>rw [atKey_of_not_has (h.Y3 hk hf)]
 | some p=>rw [h.held hk hf]
theorem MR{D}{f}(h:Q4 D f)(hD:IsMap D)(k)(p):Q4 (D.put (.int .i64 k) (Np (some p))) (fun x=>if x=k then some p else f x):=by
 intro x hx;dsimp only;by_cases e:x=k
 ·subst e;rw [if_pos rfl];exact kn3
 rw [if_neg e]
 cases hf:f x with
 | none=>rw [has_put_other (DY e)];exact h.Y3 hx hf
 | some q=>intro z;rw [atKey_put_other (DY e)];exact h.held hx hf z
def XB(f:XK):Prop:=∀k p,f k=some p->Wf k
structure I6 (w:qW) (b n:Nat) (f:XK):Prop where
 reads:∃D,w.ownsMap prog 3 WI b n D/\Q4 D f
 aaa:XB f
theorem I6.lt{w}{b n}{f}(h:I6 w b n f):b<w.heap.size:=by
 obtain ⟨D,h,_⟩:=h.reads;exact h.lt
theorem I6.same{w w'}{b n}{f}(h:I6 w b n f)(e:w'.heap[b]? =w.heap[b]?):I6 w' b n f:=by
 exact kh7
theorem JR(w:qW):I6 (w.alloc (.map #[] 0)) w.heap.size 0 noT:=
 ⟨⟨_,YY w prog 3 WI,fun _ _=>rfl⟩,fun k p h=>qd⟩
theorem Kz(w):(zeroValue 217).run prog w= .ok (AN none) w:=zeroValue217 w
theorem I6.A{w}{b n}{f}(h:I6 w b n f){k}(hk:Wf k):
  (Instr.lookup 133 (.map (some b)) (qI k) true).run prog w= .ok (.tuple #[AN (f k),.bool (f k).isSome]) w:=by
 obtain ⟨⟨D,h,r⟩,_⟩:=h;obtain ⟨v,ps,ae,hv⟩:=h.look_ok (int_keyed underlying3) underlying133 (Kz w) (Ji none) (keyOf_int_mk underlying3 hk);obtain ⟨p,rfl,hp⟩:=EE hv;rw [r.at hk,Prod.mk.injEq] at hp;rw [ae,r.has hk,KG hp.1]
theorem I6.abN{w}{b n}{f}(h:I6 w b n f){k}(hk:Wf k):
  (Instr.lookup 133 (.map (some b)) (qI k) false).run prog w= .ok (AN (f k)) w:=by
 obtain ⟨⟨D,h,r⟩,_⟩:=h;obtain ⟨v,ps,ae,hv⟩:=h.lookup (int_keyed underlying3) underlying133 (Kz w) (Ji none) (keyOf_int_mk underlying3 hk);obtain ⟨p,rfl,hp⟩:=EE hv;rw [r.at hk,Prod.mk.injEq] at hp;rw [ae,KG hp.1]
theorem I6.store{w}{b n}{f}(h:I6 w b n f)(hn:n<maxLen){k}(hk:Wf k)(p):
  ∃w',(Instr.mapUpdate 133 (.map (some b)) (qI k) (AN (some p))).run prog w= .ok () w'/\I6 w' b (n+1) (fun x=>if x=k then some p else f x)/\w.mapTurned w' b:=by
 obtain ⟨⟨D,h,r⟩,g⟩:=h;obtain ⟨w',ae,h',ht⟩:=h.store (int_keyed underlying3) underlying133 hn (keyOf_int_mk underlying3 hk) (Ji (some p));refine ⟨w',ae,⟨⟨_,h',MR r h.isMap k p⟩,fun x q hx=> ?_⟩,ht⟩;split at hx
 ·simp_all
 exact g x q hx
end
section
open RowKit
structure m7 (S:Nat->Prop) (w w':qW):Prop where
 os:w'.os=w.os
 tape:w'.tape=w.tape
 output:w'.output=w.output
 size:w.heap.size<=w'.heap.size
 block:∀k,k<w.heap.size->¬S k->w'.heap[k]? =w.heap[k]?
theorem m7.refl(S)(w):m7 S w w:=⟨rfl,rfl,rfl,uM _,fun _ _ _=>rfl⟩
theorem m7.trans{S}{a b c}(h:m7 S a b)(k:m7 S b c):m7 S a c:=
 ⟨k.os.trans h.os,k.tape.trans h.tape,k.output.trans h.output,uQ h.size k.size,fun i hi hs=>(k.block i (uY hi h.size) hs).trans (h.block i hi hs)⟩
theorem m7.then{S T}{a b c}(h:m7 S a b)(k:m7 T b c)(hT:∀i,i<a.heap.size->T i->S i):m7 S a c:=
 ⟨k.os.trans h.os,k.tape.trans h.tape,k.output.trans h.output,uQ h.size k.size,fun i hi hs=>(k.block i (uY hi h.size) (fun ht=>hs (hT i hi ht))).trans (h.block i hi hs)⟩
theorem m7.mono{S T}{w w'}(h:m7 S w w')(hs:∀k,k<w.heap.size->S k->T k):m7 T w w':=
 ⟨h.os,h.tape,h.output,h.size,fun k hk ht=>h.block k hk (fun e=>ht (hs k hk e))⟩
theorem lS{w w'}{row}(h:w.grownBy w' row):m7 (fun k=>some k=row) w w':=
 ⟨h.os,h.tape,h.output,h.size,fun k hk hs=>h.block k hk hs⟩
theorem lW{B}{w w'}(h:Below B w w'):m7 (fun k=>B<=k) w w':=
 ⟨h.os,h.tape,h.output,h.size,fun k _ hs=>h.block k zj⟩
theorem m7.m8{S}{w w'}(h:m7 S w w'){B}(hB:B<=w.heap.size)(hs:∀k,S k->B<=k):Below B w w':=
 ⟨h.os,h.tape,h.output,h.size,fun k hk=>h.block k zj (fun e=>by have:=hs k e;omega)⟩
theorem m7.drew{S}{w w'}(h:m7 S w w'):m7 S w w'.drew:=⟨h.os,h.tape,h.output,h.size,h.block⟩
theorem m7.alloc{S}{w w'}(h:m7 S w w')(o):m7 S w (w'.alloc o):=
 h.then (lS (YK w' o none)) (fun _ _ e=>yN)
theorem m7.cell{S}{w w'}(h:m7 S w w'){a}(ha:a.block<w.heap.size)(hs:¬S a.block):w'.cell? a=w.cell? a:=uV (h.block _ ha hs)
def Ly(c:Array Value):Nat->List Value->Array Value
 | _,[]=>c
 | o,v::r=>Ly (c.setIfInBounds o v) (o+1) r
theorem pT:∀(vs:List Value) (o:Nat) (c:Array Value),(Ly c o vs).size=c.size
 | [],_,_=>rfl
 | v::r,o,c=>by rw [Ly,pT r];simp
theorem oE:∀(vs A B C:List Value) (c:Array Value),c.toList=A++B++C->B.length=vs.length->(Ly c A.length vs).toList=A++vs++C
 | [],A,B,C,c,h,hl=>by
  grind [Ly]
 | v::r,A,[],C,c,h,hl=>by simp at hl
 | v::r,A,b::B,C,c,h,hl=>by
  have ih:=oE r (A++ [v]) B C (c.setIfInBounds A.length v) (by simp [h]) qx;rw [Ly];simpa using ih
theorem mD(b):∀(vs:List Value) (o:Nat) (w:qW) (c:Array Value) (t:TypeId),w.heap[b]? =some (.cells c t (0,0))->(w.setCells b o vs).heap[b]? =some (.cells (Ly c o vs) t (0,0))
 | [],_,_,_,_,h=>h
 | v::r,o,w,c,t,h=>mD b r (o+1) _ _ t (heap_setCell_same w b o c t v h)
theorem mR(b):∀(vs:List Value) (o:Nat) (w:qW) (k:Nat),k≠b->(w.setCells b o vs).heap[k]? =w.heap[k]?
 | [],_,_,_,_=>rfl
 | v::r,o,w,k,h=>by rw [World.setCells,mR b r _ _ k h];grind [heap_setCell_other]
theorem lZ(b):∀(vs:List Value) (o:Nat) (w:qW),m7 (fun k=>k=b) w (w.setCells b o vs)
 | [],_,w=>m7.refl _ w
 | v::r,o,w=>by
  refine m7.trans (b:=w.setCell (qA b o) v) ⟨rfl,rfl,rfl,?_,fun k _ hk=>heap_setCell_other w (qA b o) k v hk⟩ (lZ b r (o+1) _);simp [World.setCell]
theorem np{P}(w)(dT sT ty elem)(k b o dLen dCap)(a)(sLen sCap)(cs)
  (hu:P.underlying dT=some (.slice elem)) (hs:(P.info? elem).map (·.size)=some k) (hn:cs.length=Nat.min sLen dLen*k)
  (hsrc:∀j v,cs[j]? =some v->w.cell? (a.add j)=some v) (hc:∀j,j<cs.length->(w.cell? (qA b (o+j))).isSome=true) (hf:∀j,j<cs.length->w.frozen? (qA b (o+j))=false) (h1:∀v∈cs,v.oneCell'=true):
  (Builtin.copy_ #[dT,sT] ty #[.slice (some (qA b o)) dLen dCap,.slice (some a) sLen sCap]).run P w= .ok (goInt (Nat.min sLen dLen)) (w.setCells b o cs):=by
 have hl:=run_loadCells_list (P:=P) w a cs hsrc;have hst:=run_storeCells_cells (P:=P) b o cs 0 w (by simpa using hc) (by simpa using hf) h1
 cases hq:P.info? elem with
 | none=>simp [hq] at hs
 | some i=>
  have hi:i.size=k:=by simpa [hq] using hs
  simp only [ZG] at hst;simp [Builtin.copy_,run_underlying hu,Builtin.lenOf,Builtin.firstCells,sizeOf,typeInfo,hq,hi,<-hn,hl,hst]
theorem Ip{w:qW}{l9 k g n cap i}{E}{xs vs}(h:w.ownsRow l9 E k (qG g n cap) n xs)(au:n+1<=cap)(hi:i<=n)(hv:vs.length=k):
  ((w.setCells g ((i+1)*k) (xs.drop (i*k))).setCells g (i*k) vs).ownsRow l9 E k (qG g (n+1) cap) (n+1) (xs.take (i*k)++vs++xs.drop (i*k)):=by
 obtain ⟨hl,h2⟩:=h
 rcases h2 with ⟨hc,_⟩ | ⟨g',cap',cur,hc,hb,hg,hn,hm,hs,ht⟩
 ·cases hc
 cases hc
 have hik:=ZK k hi;have hnk:(n+1)*k=n*k+k:=vf;have gw:(i+1)*k=i*k+k:=vf;have bH:=ZK k au
 have dN:cur.toList.length=cap*k:=by simpa using hs
 have jF:cur.toList=xs++cur.toList.drop (n*k):=by
  conv=>lhs;rw [<-ZA (n*k) cur.toList]
  rw [ht]
 obtain ⟨C,hC⟩:=za (cur.toList.drop (n*k));rw [<-hC] at jF
 have bG:(xs.drop (i*k)).length=n*k - i*k:=by rw [ZL,hl]
 have aV:(xs.take (i*k)).length=i*k:=by rw [Zp,hl];omega
 have hg1:=mD g (xs.drop (i*k)) ((i+1)*k) w cur E hg
 have e1:(cur.toList.take ((i+1)*k)).length=(i+1)*k:=by rw [Zp,dN];omega
 have o1:=oE (xs.drop (i*k)) (cur.toList.take ((i+1)*k)) ((cur.toList.drop ((i+1)*k)).take (n*k - i*k)) ((cur.toList.drop ((i+1)*k)).drop (n*k - i*k)) cur
  (by grind [Zr,ZA]) zN
 rw [e1] at o1;obtain ⟨c1,hc1⟩:=za (Ly cur ((i+1)*k) (xs.drop (i*k)));rw [<-hc1] at o1 hg1
 have aG:c1.size=cap*k:=by rw [hc1,pT,hs]
 have hg2:=mD g vs (i*k) _ c1 E hg1
 have hA:cur.toList.take ((i+1)*k)=xs.take (i*k)++(cur.toList.drop (i*k)).take k:=by
  rw [gw,List.take_add];congr 1;rw [jF,Yn zj]
 have o2:=oE vs (xs.take (i*k)) ((cur.toList.drop (i*k)).take k) (xs.drop (i*k)++(cur.toList.drop ((i+1)*k)).drop (n*k - i*k)) c1
  zN zN
 rw [aV] at o2;refine ⟨?_,.inr ⟨g,cap,_,rfl,hb,hg2,au,hm,by rw [pT,aG],?_⟩⟩
 ·grind
 rw [o2,<-Zr,Yn zN,Zl zN]
theorem MJ{w:qW}{l9 k g n G i}{E}{xs vs Z:List Value}{row}(hg:w.heap[g]? =some (.cells row E (0,0)))(hrow:row.toList=xs.take (i*k)++Z)(hs:row.size=G*k)
  (hb:l9<=g) (au:n+1<=G) (hm:G<=maxLen) (hi:i<=n) (hl:xs.length=n*k) (hv:vs.length=k):
  ((w.setCells g (i*k) vs).setCells g ((i+1)*k) (xs.drop (i*k))).ownsRow l9 E k (qG g (n+1) G) (n+1) (xs.take (i*k)++vs++xs.drop (i*k)):=by
 have hik:=ZK k hi;have hnk:(n+1)*k=n*k+k:=vf;have gw:(i+1)*k=i*k+k:=vf;have bH:=ZK k au
 have bG:(xs.drop (i*k)).length=n*k - i*k:=by rw [ZL,hl]
 have aV:(xs.take (i*k)).length=i*k:=by rw [Zp,hl];omega
 have hZl:Z.length=G*k - i*k:=by
  have:row.toList.length=G*k:=by simpa using hs
  rw [hrow,uS,aV] at this;omega
 have hg1:=mD g vs (i*k) w row E hg;have o1:=oE vs (xs.take (i*k)) (Z.take k) (Z.drop k) row (by rw [hrow,Zr,ZA]) (by rw [Zp,hZl,hv];omega);rw [aV] at o1;obtain ⟨c1,hc1⟩:=za (Ly row (i*k) vs);rw [<-hc1] at o1 hg1
 have aG:c1.size=G*k:=by rw [hc1,pT,hs]
 have hg2:=mD g (xs.drop (i*k)) ((i+1)*k) _ c1 E hg1
 have hal:(xs.take (i*k)++vs).length=(i+1)*k:=by rw [uS,aV,hv,gw]
 have o2:=oE (xs.drop (i*k)) (xs.take (i*k)++vs) ((Z.drop k).take (n*k - i*k)) ((Z.drop k).drop (n*k - i*k)) c1
  (by rw [o1];simp only [Zr,ZA]) (by rw [Zp,ZL,hZl,bG];omega)
 rw [hal] at o2;refine ⟨?_,.inr ⟨g,G,_,rfl,hb,hg2,au,hm,by rw [pT,aG],?_⟩⟩
 ·rw [uS,hal,bG];omega
 grind [uS,Zl]
end
section
section
variable {α:Type} {enc:α→List Value} {k:Nat}
def mN(enc:α->List Value)(L:List α):List Value:=L.flatMap enc
theorem sS(x)(L):mN enc (x::L)=enc x++mN enc L:=rfl
theorem nS(L M):mN enc (L++M)=mN enc L++mN enc M:=by simp [mN]
theorem mv(hk:∀x,(enc x).length=k):∀L:List α,(mN enc L).length=L.length*k
 | []=>by simp [mN]
 | x::L=>by rw [sS,uS,hk,mv hk L,Zd,Nat.succ_mul];omega
theorem CE(hk:∀x,(enc x).length=k)(L)(i)(hi:i<=L.length):(mN enc L).take (i*k)=mN enc (L.take i):=by
 conv=>lhs;rw [<-ZA i L]
 rw [nS,Yn qr,Zl qr]
theorem rY(hk:∀x,(enc x).length=k)(L)(i)(hi:i<=L.length):(mN enc L).drop (i*k)=mN enc (L.drop i):=by
 conv=>lhs;rw [<-ZA i L]
 rw [nS,List.drop_append_of_le_length qr,YA qr];rfl
theorem me(hk:∀x,(enc x).length=k){L}{i c}{x}(hx:L[i]? =some x)(hc:c<k):(mN enc L)[i*k+c]? =(enc x)[c]? :=by
 obtain ⟨bl,hie⟩:=uK.1 hx
 have h1:(mN enc L)[i*k+c]? =((mN enc L).drop (i*k))[c]? :=by rw [ZT]
 grind [rY,Yg,sS,Yh]
theorem Ki(hk:∀x,(enc x).length=k)(L)(i)(hi:i<=L.length)(x):mN enc (L.take i++x::L.drop i)=(mN enc L).take (i*k)++enc x++(mN enc L).drop (i*k):=by
 grind [nS,sS,CE,rY,Zr]
theorem Bt(hk:∀x,(enc x).length=k)(L)(i)(hi:i<L.length)(x):mN enc (L.set i x)=(mN enc L).take (i*k)++enc x++(mN enc L).drop ((i+1)*k):=by
 rw [List.set_eq_take_append_cons_drop,if_pos hi,nS,sS,CE hk L i zj,rY hk L (i+1) zj,Zr]
theorem sJ(h1:∀x,∀v∈enc x,v.oneCell'=true)(L):∀v∈mN enc L,v.oneCell'=true:=by
 intro v hv;obtain ⟨x,_,hx⟩:=List.mem_flatMap.1 hv;exact h1 x v hx
end
theorem Hu{w:qW}{l9 k g n cap}{E}{A B C vs}(h:w.ownsRow l9 E k (qG g n cap) n (A++B++C))(hl:B.length=vs.length):
  (w.setCells g A.length vs).ownsRow l9 E k (qG g n cap) n (A++vs++C):=by
 obtain ⟨hlen,h2⟩:=h
 rcases h2 with ⟨hc,_⟩ | ⟨g',cap',cur,hc,hb,hg,hn,hm,hs,ht⟩
 ·cases hc
 cases hc
 have hlen':(A++vs++C).length=n*k:=by rw [<-hlen];simp [hl]
 refine ⟨hlen',.inr ⟨g,cap,_,rfl,hb,mD g vs A.length w cur E hg,hn,hm,by rw [pT,hs],?_⟩⟩
 have jF:cur.toList=A++B++(C++cur.toList.drop (n*k)):=by
  conv=>lhs;rw [<-ZA (n*k) cur.toList]
  rw [ht];simp
 rw [oE vs A B _ cur jF hl,<-Zr,Yn zj,Zl zj]
theorem CF{P}(w)(l9)(t ty e)(i)(z)(size bytes)(ht:P.underlying t=some (.slice e))(hi:P.info? e=some i)(hz:i.zero=some z)
  (eC:i.size=size) (bK:i.bytes=bytes) (fL:z.cells.size=size) (hsz:0<size)
  (v) (n) (xs) (hown:w.ownsRow l9 e size v n xs)
  (a) (m c) (hm0:0<m) (news) (hl:news.length=m*size) (bq:∀j u,news[j]? =some u->w.cell? (a.add j)=some u) (h1:∀u∈news,u.oneCell'=true)
  (h63:n+m<=maxLen) (de:(n+m)*bytes<=140737488355328) (aj:l9<=w.heap.size):
  ∃v' w',(Builtin.append_ #[t,t] ty #[v,.slice (some a) m c]).run P w= .ok v' w'/\w'.ownsRow l9 e size v' (n+m) (xs++news)/\w.grownBy w' v.ownBlock/\
   (v'.ownBlock=v.ownBlock\/v'.ownBlock=some w.heap.size):=by
 obtain ⟨v',w',ae,h',hg',-⟩:=run_append_own (P:=P) w l9 t ty e i z size bytes ht hi hz eC bK fL hsz v n xs hown a m c news hl bq h1 h63 de aj;refine ⟨v',w',ae,h',hg',?_⟩;subst eC;subst bK
 have lH:n+m<=9223372036854775807:=by simp only [maxLen] at h63;omega
 rcases hown.2 with ⟨rfl,rfl⟩ | ⟨g,cap,cur,rfl,hbg,hg,hnc,hcm,hcs,htake⟩
 ·have hr:=run_append_nil (P:=P) w t ty e i z ht hi hz a m c news hl bq zj zj zN;exact ko3
 by_cases au:n+m<=cap
 ·have jC:n*i.size+news.length<=cur.size:=by rw [hl,hcs,<-YG];exact ZK _ au
  have hr:=run_append_room (P:=P) w t ty e i ht hi g n cap cur hg a m c news hl bq h1 au jC;rw [hr] at ae;simp only [Result.ok.injEq] at ae;left;rw [<-ae.1];rfl
 have holds:=hown.cells (g:=g) rfl;have hr:=run_append_grow (P:=P) w t ty e i z ht hi hz (qB g) n cap xs hown.1 holds a m c news hl bq zj zj (growslice_fits zj de);exact ko3
end
section
open Shelf RowKit Lib
theorem Jv:(prog.info? 334).map (fun i=>(i.zero,i.size,i.bytes))=some (some (.agg #[qI 0,.int .u8 0,.bool false]),3,16):=zk
def JA(w:qW)(l9:Nat)(v:Value)(n:Nat)(ys:List Value)(e:Ending)(w':qW):Prop:=
 ∃v',e= .returned v'/\w'.ownsRow l9 334 3 v' (n+1) ys/\m7 (fun k=>some k=v.ownBlock) w w'/\(v'.ownBlock=v.ownBlock\/v'.ownBlock=some w.heap.size)
theorem If(w)(l9)(v)(n:Nat)(xs vs)(hown:w.ownsRow l9 334 3 v n xs)(hn:n<=1000)(vb)(hv:vs.length=3)
  (aW:∀j u,vs[j]? =some u->w.cell? (qA vb j)=some u) (cN:∀u∈vs,u.oneCell'=true) (aj:l9<=w.heap.size):
  qC 280 #[v,qI n,qG vb 1 1] w (JA w l9 v n (xs++vs)):=by
 obtain ⟨i0,hi,aD,aw,aJ⟩:=info_parts Jv
 obtain ⟨v',w',ae,ho,hg,hb⟩:=CF (P:=prog) w l9 330 330 334 i0 _ 3 16 underlying330 hi aD aw aJ rfl zj v n xs hown (qB vb) 1 1 zj vs zj
  (fun j u hj=>vG) cN zB zj aj
 have iB:Aside (JA w l9 v n (xs++vs) (.returned v') w'):=⟨v',rfl,ho,lS hg,hb⟩
 rcases hown.2 with ⟨rfl,rfl⟩ | ⟨g,cap,cur,rfl,hbg,hgb,hnc,hcm,hcs,htake⟩
 ·clear hown ho hg hb aW cN;go_enter func280,ntmps280;exact kk1
 clear hown ho hg hb aW cN htake hcs hgb hbg;go_enter func280,ntmps280;go_wp2_with (at_builtin;refine Lib.wpList_append_run _ rfl _ _ _ _ rfl _ _ rfl rfl _ _ ae ?_)
 all_goals (go_ret;exact iB.o)
theorem Ht(w)(l9 g n cap i)(xs vs)(hown:w.ownsRow l9 334 3 (qG g n cap) n xs)(hn:n<=1000)(vb)(hv:vs.length=3)
  (aW:∀j u,vs[j]? =some u->w.cell? (qA vb j)=some u) (cN:∀u∈vs,u.oneCell'=true) (fI:∀u∈xs,u.oneCell'=true) (fN:vb≠g) (lI:w.shape? vb=some (334,3)) (hfa:∀j,w.frozen? (qA vb j)=false)
  (hi:i<n) (au:n+1<=cap):
  qC 280 #[qG g n cap,qI i,qG vb 1 1] w (JA w l9 (qG g n cap) n (xs.take (i*3)++vs++xs.drop (i*3))):=by
 have hL:Aside (∀W:World,W.heap=w.heap->W.os=w.os->W.tape=w.tape->W.output=w.output->JA w l9 (qG g n cap) n (xs.take (i*3)++vs++xs.drop (i*3)) (.returned (qG g (n+1) cap)) ((W.setCells g ((i+1)*3) (xs.drop (i*3))).setCells g (i*3) vs)):=by
  intro W h0 h2 h3 h4;have ie:W.ownsRow l9 334 3 (qG g n cap) n xs:=uz;have k1:=(lZ g (xs.drop (i*3)) ((i+1)*3) W).trans (lZ g vs (i*3) _);exact kf8
 obtain ⟨dS,h2⟩:=hown
 rcases h2 with ⟨hc,_⟩ | ⟨g',cap',cur,hc,hbg,hgb,hnc,hcm,hcs,htake⟩
 ·cases hc
 cases hc
 have hcm':cap<=9223372036854775807:=by simp only [maxLen] at hcm;omega
 have hsp:∀j,j<(n+1)*3->(w.cell? (qA g j)).isSome=true:=fun j hj=>by
  have:j<cur.size:=by rw [hcs];omega
  simp [World.cell?,hgb,this]
 have hfz:∀j,w.frozen? (qA g j)=false:=fun j=>by simp [World.frozen?,hgb]
 have hcell:∀j u,xs[j]? =some u->w.cell? (qA g j)=some u:=fun j u hj=>by
  exact kd4
 have hsb:w.shape? g=some (334,cap*3):=by simp [World.shape?,hgb,hcs]
 have hsz:(prog.info? 334).map (·.size)=some 3:=by
  obtain ⟨i0,dY,_,h1,_⟩:=info_parts Jv;rw [dY];simp [h1]
 have hov:∀lb cb,(callFunc 336 #[qG vb 1 1,.slice (some (qA g ((i+1)*3))) lb cb]).run prog w= .ok (.value (.bool false)) w:=fun lb cb=>by
  rw [run_callFunc_extern func336 zk zk zk (e:=Extern.SlicesOverlaps.overlaps #[330,330] #[4]) zk,
   Lib.run_overlaps_apart w 330 4 334 underlying330 3 sizeOf334 (qB vb) (qA g ((i+1)*3)) 1 1 lb cb fN 334 334 3 (cap*3) lI hsb zj (hfa 0) (hfa 3)]
  rfl
 have bG:(xs.drop (i*3)).length=n*3 - i*3:=xa
 have iD:∀ty dc sc,(Builtin.copy_ #[330,330] ty #[.slice (some (qA g ((i+1)*3))) (n - i) dc,.slice (some (qA g (i*3))) (n+1 - i) sc]).run prog w.drew= .ok (goInt ((n - i:Nat):Int)) (w.drew.setCells g ((i+1)*3) (xs.drop (i*3))):=fun ty dc sc=>by
  have hmin:Nat.min (n+1 - i) (n - i)=n - i:=yk
  have:=np (P:=prog) w.drew 330 330 ty 334 3 g ((i+1)*3) (n - i) dc (qA g (i*3)) (n+1 - i) sc (xs.drop (i*3)) underlying330 hsz xG
   (fun j u hj=>by rw [Addr.add_lit];exact hcell _ u (by rwa [ZT] at hj))
   (fun j hj=>hsp _ xz) (fun j _=>hfz _) (fun u hu=>fI u (YU hu))
  simp_all
 obtain ⟨W1,bM⟩:=za (w.drew.setCells g ((i+1)*3) (xs.drop (i*3)))
 have lG:∀j,j<(n+1)*3->(W1.cell? (qA g j)).isSome=true:=fun j hj=>by
  rw [bM];exact isSome_setCells g (xs.drop (i*3)) ((i+1)*3) w.drew (fun t ht=>hsp ((i+1)*3+t) (by rw [bG] at ht;omega)) _ (hsp j hj)
 have hcp2:∀(W:qW),(∀x,W.cell? x=W1.cell? x)->(∀x,W.frozen? x=W1.frozen? x)->∀ty dc,(Builtin.copy_ #[330,330] ty #[.slice (some (qA g (i*3))) (n+1 - i) dc,qG vb 1 1]).run prog W= .ok (goInt 1) (W.setCells g (i*3) vs):=fun W eT iH ty dc=>by
  have hmin:Nat.min 1 (n+1 - i)=1:=yk
  have:=np (P:=prog) W 330 330 ty 334 3 g (i*3) (n+1 - i) dc (qB vb) 1 1 vs underlying330 hsz vI
   (fun j u hj=>by
    rw [Addr.add_lit,Ze,eT,bM,Yb g _ _ _ _ (fun h _=>absurd h fN)]
    exact aW j u hj)
   (fun j hj=>by rw [eT];exact lG _ zj) (fun j _=>by rw [iH,bM,Yy];exact hfz _) cN
  simp_all
 rw [<-bM] at iD;have hw1:IntKind.i64.wrap ((i:Int)+1)=(i:Int)+1:=zw;have hw2:IntKind.i64.wrap ((n:Int)+1)=(n:Int)+1:=zw;have hb1:(0:Int)<=(i:Int)+1:=zj;have ar:i<=n:=zj;have htn:((i:Int)+1).toNat=i+1:=zj;have htn2:((n:Int)+1).toNat=n+1:=zj;have hb2:¬(cap=i+1):=zj;have hb3:(i:Int)<=(n:Int)+1:=zj;have hb4:¬(cap=i):=zj;have hb5:¬((cap:Int)<(n:Int)+1):=zj;go_enter func280,ntmps280;go_wp2_with (simp only [hov]);have mixed:prog.follows .mixedOrders=true:=zk;go_region_law_o (refine step_copy_runI rfl _ _ 330 330 rfl _ _ yn yn (iD _ _ _) ?_);go_wp2_with (at_builtin;refine wpList_copy_runI _ rfl _ _ 330 330 rfl _ _ rfl rfl (hcp2 _ (fun _=>rfl) (fun _=>rfl) _ _) ?_);go_ret;subst bM;exact hL.o w.drew rfl rfl rfl rfl
theorem Gc(w)(l9 g n cap i)(xs vs)(hown:w.ownsRow l9 334 3 (qG g n cap) n xs)(hn:n<=1000)(vb)(hv:vs.length=3)
  (aW:∀j u,vs[j]? =some u->w.cell? (qA vb j)=some u) (cN:∀u∈vs,u.oneCell'=true) (fI:∀u∈xs,u.oneCell'=true) (aj:l9<=w.heap.size)
  (hi:i<n) (au:cap<n+1):
  qC 280 #[qG g n cap,qI i,qG vb 1 1] w (JA w l9 (qG g n cap) n (xs.take (i*3)++vs++xs.drop (i*3))):=by
 obtain ⟨dS,h2⟩:=hown
 rcases h2 with ⟨hc,_⟩ | ⟨g',cap',cur,hc,hbg,hgb,hnc,hcm,hcs,htake⟩
 ·cases hc
 cases hc
 obtain ⟨i0,dY,aD,fL,cQ⟩:=info_parts Jv
 have hcell:∀j u,xs[j]? =some u->w.cell? (qA g j)=some u:=fun j u hj=>by
  exact kd4
 have dE:=(uN.1 hgb).1;have hvw:vb<w.heap.size:=block_lt_of_cell (aW 0 _ (uL zj))
 have hsz:(prog.info? 334).map (·.size)=some 3:=by rw [dY];simp [fL]
 have aV:(xs.take (i*3)).length=i*3:=by rw [Zp,dS];omega
 have bG:(xs.drop (i*3)).length=n*3 - i*3:=xa
 have hold:(Builtin.firstCells i0.size i (qG g i cap)).run prog w.drew= .ok (xs.take (i*3)).toArray w.drew:=by
  rw [fL]
  exact run_firstCells_some w.drew 3 i (qB g) i cap (xs.take (i*3)) aV (fun j u hj=>by
   simp_all [Addr.add_lit,Ze,Yj])
 have hik:i+(n+1 - i)=n+1:=zj;have gr:(n:Int)+1 - (i:Int)=((n+1 - i:Nat):Int):=zj;obtain ⟨Z,hZ⟩:=za ((Value.agg #[qI 0,.int .u8 0,.bool false]).cells)
 have hZs:Z.size=3:=by rw [hZ];rfl
 obtain ⟨G,hG⟩:=za (grownCap w (n+1) cap 334)
 have hGn:n+1<=G:=by rw [hG];exact grownCap_ge w _ _ _
 have hGm:G<=maxLen:=by rw [hG];exact grownCap_le_maxLen w (n+1) cap 334 yu
 obtain ⟨be,fH⟩:∃be:Array Value,be=(xs.take (i*3)).toArray++Builtin.zeroCells Z (n+1 - i)++Builtin.zeroCells Z (G - (n+1)):=⟨_,rfl⟩
 have hrz:∀ty,(Builtin.append_ #[330,3] ty #[qG g i cap,qI ((n:Int)+1 - (i:Int))]).run prog w= .ok (qG w.heap.size (n+1) G) (w.drew.alloc (.cells be 334)):=fun ty=>by
  grind [Lib.run_append_grow_zeros,underlying330,underlying3,growslice_fits]
 have hRs:be.size=G*3:=by
  exact km9
 have hRl:∃Y,be.toList=xs.take (i*3)++Y:=⟨(Builtin.zeroCells Z (n+1 - i)++Builtin.zeroCells Z (G - (n+1))).toList,by rw [fH];simp⟩
 obtain ⟨W1,bM⟩:=za (w.drew.alloc (.cells be 334));rw [<-bM] at hrz
 have hN:∀j,j<(n+1)*3->(W1.cell? (qA w.heap.size j)).isSome=true:=fun j hj=>by
  exact kl5
 have hNf:∀j,W1.frozen? (qA w.heap.size j)=false:=fun j=>by rw [bM];exact World.frozen?_alloc_at (w:=w.drew) be _ w.heap.size j rfl
 have hOb:∀j u,w.cell? (qA g j)=some u->W1.cell? (qA g j)=some u:=fun j u h=>by rw [bM,Qd (w:=w.drew) _ g j dE];exact h
 have hOv:∀j u,w.cell? (qA vb j)=some u->W1.cell? (qA vb j)=some u:=fun j u h=>by rw [bM,Qd (w:=w.drew) _ vb j hvw];exact h
 have hcpA:∀(W:qW),(∀x,W.cell? x=W1.cell? x)->(∀x,W.frozen? x=W1.frozen? x)->∀ty dc,(Builtin.copy_ #[330,330] ty #[.slice (some (qA w.heap.size (i*3))) (n+1 - i) dc,qG vb 1 1]).run prog W= .ok (goInt 1) (W.setCells w.heap.size (i*3) vs):=fun W eT iH ty dc=>by
  have hmin:Nat.min 1 (n+1 - i)=1:=yk
  have:=np (P:=prog) W 330 330 ty 334 3 w.heap.size (i*3) (n+1 - i) dc (qB vb) 1 1 vs underlying330 hsz vI
   (fun j u hj=>xR)
   (fun j hj=>by rw [eT];exact hN _ zj) (fun j _=>by rw [iH];exact hNf _) cN
  simp_all
 have hgN:g≠w.heap.size:=zj
 have hcpB:∀(W:qW),(∀x,W.cell? x=(W1.setCells w.heap.size (i*3) vs).cell? x)->(∀x,W.frozen? x=(W1.setCells w.heap.size (i*3) vs).frozen? x)->∀ty dc sc,(Builtin.copy_ #[330,330] ty #[.slice (some (qA w.heap.size ((i+1)*3))) (n - i) dc,.slice (some (qA g (i*3))) (n - i) sc]).run prog W= .ok (goInt ((n - i:Nat):Int)) (W.setCells w.heap.size ((i+1)*3) (xs.drop (i*3))):=fun W eT iH ty dc sc=>by
  have hmin:Nat.min (n - i) (n - i)=n - i:=by simp [Nat.min_def]
  have:=np (P:=prog) W 330 330 ty 334 3 w.heap.size ((i+1)*3) (n - i) dc (qA g (i*3)) (n - i) sc (xs.drop (i*3)) underlying330 hsz xG
   (fun j u hj=>by
    rw [Addr.add_lit,eT,Yb _ _ _ _ _ (fun h _=>absurd h hgN)]
    exact hOb _ u (hcell _ u (by rwa [ZT] at hj)))
   (fun j hj=>by rw [eT];exact isSome_setCells w.heap.size vs (i*3) W1 (fun t ht=>hN _ zj) _ (hN _ xz))
   (fun j _=>by rw [iH,Yy];exact hNf _) (fun u hu=>fI u (YU hu))
  simp_all
 have hL:Aside (∀W:World,W.heap=W1.heap->W.os=w.os->W.tape=w.tape->W.output=w.output->JA w l9 (qG g n cap) n (xs.take (i*3)++vs++xs.drop (i*3)) (.returned (qG w.heap.size (n+1) G)) ((W.setCells w.heap.size (i*3) vs).setCells w.heap.size ((i+1)*3) (xs.drop (i*3)))):=by
  intro W h0 h2 h3 h4;have hgW:W.heap[w.heap.size]? =some (.cells be 334 (0,0)):=ux;obtain ⟨Y,hY⟩:=hRl;have k1:=(lZ w.heap.size vs (i*3) W).trans (lZ w.heap.size (xs.drop (i*3)) ((i+1)*3) _);exact kd7
 have hGi:¬(G=i):=zj;have hGim:¬(G=i+1):=zj;have hci:¬(cap=i):=zj;have hw1:IntKind.i64.wrap ((i:Int)+1)=(i:Int)+1:=zw;have hw2:IntKind.i64.wrap ((n:Int)+1)=(n:Int)+1:=zw;have hw3:IntKind.i64.wrap ((n:Int)+1 - (i:Int))=(n:Int)+1 - (i:Int):=zw;have hb1:(0:Int)<=(i:Int)+1:=zj;have ar:i<=n:=zj;have hin2:i<=cap:=zj;have htn:((i:Int)+1).toNat=i+1:=zj;have hb5:((cap:Int)<(n:Int)+1):=zj
 have ee:∀x,((w.alloc (.cells be 334)).drew).cell? x=(w.drew.alloc (.cells be 334)).cell? x:=fun x=>rfl
 have hE2:∀x,((w.alloc (.cells be 334)).drew).frozen? x=(w.drew.alloc (.cells be 334)).frozen? x:=fun x=>rfl
 subst bM
 have hF1:∀x,(((w.alloc (.cells be 334)).drew.setCells w.heap.size (i*3) vs).drew).cell? x=((w.drew.alloc (.cells be 334)).setCells w.heap.size (i*3) vs).cell? x:=fun x=>rfl
 have hF2:∀x,(((w.alloc (.cells be 334)).drew.setCells w.heap.size (i*3) vs).drew).frozen? x=((w.drew.alloc (.cells be 334)).setCells w.heap.size (i*3) vs).frozen? x:=fun x=>rfl
 clear htake hcs hgb hcell hcm dS bG aV aW cN fI hbg hold fH hG hRs hRl hN hNf hOb hOv hik gr hGm hZ hZs dE hvw;go_enter func280,ntmps280
 go_wp2_with (first
  | (at_builtin;refine Lib.wpList_append_run _ rfl _ _ _ _ rfl _ _ rfl rfl _ _ (hrz _) ?_)
  | (at_builtin;refine wpList_copy_runI _ rfl _ _ 330 330 rfl _ _ rfl rfl (hcpA _ ee hE2 _ _) ?_))
 have mixed:prog.follows .mixedOrders=true:=zk;go_region_law_o (refine step_copy_runI rfl _ _ 330 330 rfl (.slice (some (qA w.heap.size ((i+1)*3))) (n - i) (G - (i+1))) (.slice (some (qA g (i*3))) (n - i) (cap - i)) yn yn (hcpB _ hF1 hF2 3 (G - (i+1)) (cap - i)) ?_);go_wp2;go_ret;rw [drew_setCells];exact hL.o ((w.alloc (.cells be 334)).drew.drew) rfl rfl rfl rfl
theorem Ma(w)(l9 n i:Nat)(v)(xs vs)(hown:w.ownsRow l9 334 3 v n xs)(hn:n<=1000)(vb)(hv:vs.length=3)
  (aW:∀j u,vs[j]? =some u->w.cell? (qA vb j)=some u) (cN:∀u∈vs,u.oneCell'=true) (fI:∀u∈xs,u.oneCell'=true) (fN:some vb≠v.ownBlock) (lI:w.shape? vb=some (334,3)) (hfa:∀j,w.frozen? (qA vb j)=false) (aj:l9<=w.heap.size) (hi:i<=n):
  qC 280 #[v,qI i,qG vb 1 1] w (JA w l9 v n (xs.take (i*3)++vs++xs.drop (i*3))):=by
 by_cases he:i=n
 ·subst he;have e1:xs.take (i*3)=xs:=Zl xN;have e2:xs.drop (i*3)= []:=YA xN;rw [e1,e2,Ye];exact If w l9 v i xs vs hown hn vb hv aW cN aj
 have hown':=hown
 rcases hown.2 with ⟨rfl,rfl⟩ | ⟨g,cap,cur,rfl,-⟩
 ·omega
 by_cases au:n+1<=cap
 ·exact Ht w l9 g n cap i xs vs hown hn vb hv aW cN fI (fun e=>fN uH) lI hfa zj au
 exact Gc w l9 g n cap i xs vs hown hn vb hv aW cN fI aj zj zj
end
section
open RowKit Shelf
attribute [local go_sem] Oper.semAt_some
def tH(x:Ent):List Value:=[qI x.1.1.1,qI x.1.1.2,qI x.1.2.1,qI x.1.2.2.1,.string x.1.2.2.2,qI x.2.1,qI x.2.2.1,.string x.2.2.2]
theorem rK(x):(tH x).length=8:=rfl
theorem Kt(x):∀v∈tH x,v.oneCell'=true:=by
 intro v hv;simp only [tH,uZ,ZS,or_false] at hv;exact kh5
def zdA:Ent:=(((0,0),mM),mM)
def nv(L:List Ent)(r:Nat):Ent:=L.getD (L.length - 1 - r) zdA
def zc9(L:List Ent)(r:Nat):Array Value:= #[qI ((L.length - 1 - r:Nat):Int),.agg #[qI (nv L r).1.1.1,qI (nv L r).1.1.2,qI (nv L r).1.2.1,qI (nv L r).1.2.2.1,.string (nv L r).1.2.2.2,qI (nv L r).2.1,qI (nv L r).2.2.1,.string (nv L r).2.2.2]]
def E5(g h:Nat)(W W':qW):Prop:=W'.heap[g]? =W.heap[g]? /\W'.heap[h]? =W.heap[h]?
theorem E5.refl(g h)(W):E5 g h W W:=⟨rfl,rfl⟩
theorem E5.trans{g h}{A B C}(x:E5 g h A B)(y:E5 g h B C):E5 g h A C:=⟨y.1.trans x.1,y.2.trans x.2⟩
theorem E5.put{g h N}(hg:g<N)(hh:h<N)(W)(l)(o')(hl:N<=l):E5 g h W (W.putObj l o'):=
 ⟨Yd zj,Yd zj⟩
def V6(W:qW)(g off:Nat)(L:List Ent):Prop:=∀j u,(mN tH L)[j]? =some u->W.cell? (qA g (off+j))=some u
theorem V6.same{W W'}{g off}{L}(h:V6 W g off L)(e:W'.heap[g]? =W.heap[g]?):V6 W' g off L:=fun j u hj=>by
 have:=h j u hj
 grind [uV]
theorem V6.at{W}{g off}{L}(h:V6 W g off L){i}{x}(hx:L[i]? =some x)(c){u}(hu:(tH x)[c]? =some u):W.cell? (qA g (off+i*8+c))=some u:=by
 have hc:c<8:=by have:=(uK.1 hu).1;rwa [rK] at this
 rw [Yx];exact h _ u (by rw [me rK hx hc];exact hu)
theorem VR(F)(n)(h7:F.fn 367)(cO:F.round=none)(hn:1<=n)(l Bs g off cap)(ao)(L)(hlen:L.length<=1000)(aH:L= []\/ao=some (qA g off))(J Jx:List Nat->World->Prop)
  (hY:∀pre x W,J pre W->pre.length<L.length->YieldAt F (n - 1) prog l (zc9 L x) W fun e W'=>
   (e= .returned (.bool true)/\J (pre++ [x]) W'/\E5 g Bs W W')\/(e= .returned (.bool false)/\Jx (pre++ [x]) W'))
  (W) (bN:W.cell? (qB Bs)=some (.slice ao L.length cap)) (hc:V6 W g off L) (h0:J [] W):
  CallsIn F n prog 367 #[.func (.yield l) #[] #[],qP Bs] W fun e W'=>(∃v,e= .returned v)/\
   ((∃ys,ys=List.range L.length/\J ys W')\/(∃pre,(∃k,k<=L.length/\pre=List.range k)/\Jx pre W')):=by
 refine callsIn_of_wp func367 rfl h7 ?_ cO;simp only [ntmps367,Zn,Zd,Zt,Nat.reduceAdd,Nat.reduceSub,Zx,Zy,ZH,ZC,ZE,ZI];have hw0:IntKind.i64.wrap ((L.length:Int) - 1)=(L.length:Int) - 1:=zw;gi_wp2
 gi_loopw [3] (fun i wr=>∃k:Nat,k<=L.length/\i=qI ((L.length:Int) - 1 - k)/\J (List.range k) wr/\E5 g Bs W wr)
  (fun i _=>(intOf i+1).toNat)
 case atStart=>exact ⟨0,uW _,zq,h0,E5.refl _ _ _⟩
 case round=>
  obtain ⟨k,hk,rfl,jd,cz⟩:=hrel;have iJ:=(uV (a:=(qB Bs)) cz.2).trans bN;by_cases hlt:k<L.length
  ·have iG:=aH.resolve_left (fun e=>zM);subst iG;obtain ⟨fn,tmps,assign,body,hy,hR⟩:=hY _ k wr jd zM
   have cE:L[L.length - 1 - k]? =some (nv L k):=by
    exact km7
   have hrow:=hc.same cz.1;obtain ⟨x,hx⟩:=za (nv L k);rw [<-hx] at cE;obtain ⟨i,hi⟩:=za (L.length - 1 - k);have bl:(L.length:Int) - 1 - k=(i:Int):=zj;have hilt:i<L.length:=zj;unfold zc9 at hy;rw [<-hx,<-hi] at hy;rw [<-hi] at cE;have c0:wr.cell? (qA g (off+i*8))=some (qI x.1.1.1):=hrow.at cE 0 (u:=qI x.1.1.1) rfl;have c1:=hrow.at cE 1 (u:=qI x.1.1.2) rfl;have c2:=hrow.at cE 2 (u:=qI x.1.2.1) rfl;have c3:=hrow.at cE 3 (u:=qI x.1.2.2.1) rfl;have c4:=hrow.at cE 4 (u:=.string x.1.2.2.2) rfl;have c5:=hrow.at cE 5 (u:=qI x.2.1) rfl;have c6:=hrow.at cE 6 (u:=qI x.2.2.1) rfl;have c7:=hrow.at cE 7 (u:=.string x.2.2.2) rfl;rw [bl];have hw1:IntKind.i64.wrap ((i:Int) - 1)=(i:Int) - 1:=zw;have dY:(0:Int)<=(i:Int):=zj;have hib:(i:Int)<(L.length:Int):=zj
   have HK:Aside (i=L.length - 1 - k/\k<L.length/\E5 g Bs W wr):=⟨hi,hlt,cz⟩
   have hR':Aside (RoundIn F (n - 1) prog l fn tmps assign body wr fun e W'=>(e= .returned (.bool true)/\J (List.range k++ [k]) W'/\E5 g Bs wr W')\/(e= .returned (.bool false)/\Jx (List.range k++ [k]) W')):=hR;clear hi bl hlt hk cE hx hR hrow cz jd hY h0;gi_wp2;refine hR'.o.mono ?_;rintro e W3 (⟨rfl,hJ3,hk3⟩ | ⟨rfl,hJx3⟩)
   ·gi_wp2;go_roundw
    case rel=>exact ⟨k+1,xW,by have:=HK.o;congr 1;omega,by rw [Yt];exact hJ3,HK.o.2.2.trans hk3⟩
    case measure=>have:=HK.o;simp [intOf]
   gi_wp2;refine bodyPost_ret (results_none rfl _ _ _) rfl ?_;exact ⟨⟨_,rfl⟩,.inr ⟨_,⟨k+1,xW,(Yt).symm⟩,hJx3⟩⟩
  obtain rfl:k=L.length:=zj;gi_wp2;go_end0
  simp_all
end
section
open RowKit Lib Go.Sort
def Hd(l:Ltr):List Value:=[qI l.1,.int .u8 (l.2.1:Int),.bool (!l.2.2)]
theorem rF(l):(Hd l).length=3:=rfl
theorem Kj(l):∀v∈Hd l,v.oneCell'=true:=by
 intro v hv;simp [Hd] at hv
 rcases hv with rfl | rfl | rfl<;>rfl
theorem pH{w w'}{b o}{v}(hb:qL w w')(h:w.cell? (qA b o)=some v):w'.cell? (qA b o)=some v:=by
 exact kg9
def Q2(w:qW)(ao:qO)(zs:List Ltr):Prop:=zs= []\/∃blk off,ao=some (qA blk off)/\∀j u,(mN Hd zs)[j]? =some u->w.cell? (qA blk (off+j))=some u
theorem Q2.later{w w'}{ao}{zs}(h:Q2 w ao zs)(hb:qL w w'):Q2 w' ao zs:=by
 rcases h with h | ⟨g,o,h1,h2⟩
 ·exact .inl h
 exact .inr ⟨g,o,h1,fun j u hj=>pH hb (h2 j u hj)⟩
theorem Q2.at{w}{ao}{zs}(h:Q2 w ao zs){i:Nat}{a}{c}{g}(hi:zs[i]? =some (a,c,g)):∃blk off,ao=some (qA blk off)/\w.cell? (qA blk (off+i*3))=some (qI a)/\w.cell? (qA blk (off+i*3+1))=some (.int .u8 (c:Int))/\w.cell? (qA blk (off+i*3+2))=some (.bool (!g)):=by
 rcases h with h | ⟨b,o,h1,h2⟩
 ·subst h;simp at hi
 have hg:=fun k hk=>me (enc:=Hd) (k:=3) rF (c:=k) hi hk
 refine ⟨b,o,h1,?_,?_,?_⟩
 ·exact h2 (i*3+0) _ (hg 0 zj)
 ·rw [Yx];exact h2 _ _ (hg 1 zj)
 rw [Yx];exact h2 _ _ (hg 2 zj)
def Ty(g:Nat)(lb:Array Value)(p:Ltr->Bool)(w:qW):Prop:=
 ∀(W:qW) (a:Int) (c:Nat) (gn:Bool),qL w W->Calls prog g (#[.agg #[qI a,.int .u8 (c:Int),.bool (!gn)]]++lb) W (qR (.bool (p (a,c,gn))) w)
theorem CQ(p)(g:Nat)(lb)(eg:∀args w,(callFunc g args).run prog w= .ok (.enter g args) w)(ao)(cap)(zs)(w)(hp:Ty g lb p w)(fD:zs.length<=1000000)(ar:Q2 w ao zs):
  qC 334 #[.slice ao zs.length cap,.func (.func g) #[] lb] w fun e w'=>∃r:Int,e= .returned (qI r)/\Aside (Xi p zs r/\qL w w'):=by
 have HP:Aside (Ty g lb p w):=hp;have HI:Aside (Q2 w ao zs):=ar;go_enter func334,ntmps334;go_wp2;go_loopg [5,8] zs.length (fun kx _ s8 wr=>∃(k:Nat),s8=qN k/\k<=zs.length/\zs.length - k<=kx/\Aside (qL w wr/\∀j l,j<k->zs[j]? =some l->p l=false))
 case atStart=>exact ⟨0,rfl,uW _,uM _,⟨uO _ w,fun j l hj=>zj⟩⟩
 case round=>
  obtain ⟨k,rfl,hk,aY,A⟩:=hrel;by_cases hlt:k<zs.length
  ·have aq:qlt k zs.length=true:=by simp;omega
   have ek:((k:Int)).toNat=k:=zj;have pk:(0:Int)<=(k:Int):=zj;have bk:(k:Int)<(zs.length:Int):=zj
   obtain ⟨⟨a,c,gn⟩,hl⟩:∃l,Aside (zs[k]? =some l):=⟨zs[k],uL hlt⟩
   obtain ⟨blk,off,rfl,c0,c1,c2⟩:=(HI.o.later A.o.1).at hl.o;have ac:=HP.o wr a c gn A.o.1
   cases hq:p (a,c,gn) with
   | true=>
    exact kh0
   | false=>
    rw [hq] at ac;have HQ:=Lib.hid hq;go_wp2_with (go_at_fn g;refine ac.mono ?_;rintro e w' ⟨rfl,hb'⟩);go_roundg (zs.length - (k+1))
    case measure=>omega
    case rel=>
     refine ⟨k+1,zJ,zj,uM _,⟨hb',fun j l hj e=> ?_⟩⟩
     rcases Yv j k with h | h
     ·exact A.o.2 j l h e
     exact kg3
  exact kb5
theorem Uo(id)(B)(w)(hB:B<w.heap.size)(hc:w.cell? (qB B)=some (qI id)):Ty 335 #[qP B] (fun l=>decide (l.1=id)) w:=fun W a c gn hb=>by
 have fC:=(hb.cell (p:=(qB B)) hB).trans hc;have hBW:=uY hB hb.size
 show qC 335 #[.agg #[qI a,.int .u8 (c:Int),.bool (!gn)],qP B] W _
 go_enter func335,ntmps335;go_wp2
 all_goals (go_ret;exact ⟨by simp [BEq.beq],hb.alloc hb.size _⟩)
theorem TJ(id)(B)(w)(hB:B<w.heap.size)(hc:w.cell? (qB B)=some (qI id)):Ty 338 #[qP B] (fun l=>decide (l.1<id)) w:=fun W a c gn hb=>by
 have fC:=(hb.cell (p:=(qB B)) hB).trans hc;have hBW:=uY hB hb.size
 show qC 338 #[.agg #[qI a,.int .u8 (c:Int),.bool (!gn)],qP B] W _
 go_enter func338,ntmps338;go_wp2
 all_goals (go_ret;exact ⟨rfl,hb.alloc hb.size _⟩)
structure B6 (l9:Nat) (w:qW) (p:Nat) (v:Value) (L:List Ltr):Prop where
 cell:w.heap[p]? =some (.cells #[v] 332 (0,0))
 row:w.ownsRow l9 334 3 v L.length (mN Hd L)
 low:p<l9
 I7:(L.map (·.1)).Nodup
 pos:∀l∈L,l.1≠0
 aaq:∀l∈L,l.2.1<256
theorem B6.c0{l9}{w}{p}{v}{L}(h:B6 l9 w p v L):w.cell? (qB p)=some v:=by simp [World.cell?,h.cell]
theorem B6.lt{l9}{w}{p}{v}{L}(h:B6 l9 w p v L):p<w.heap.size:=(uN.1 h.cell).1
theorem FI{w w':qW}{l9 n}{e}{k}{v}{xs}(h:w.ownsRow l9 e k v n xs)(hs:∀g,v.ownBlock=some g->w'.heap[g]? =w.heap[g]?):w'.ownsRow l9 e k v n xs:=by
 refine ⟨h.1,?_⟩
 rcases h.2 with h0 | ⟨g,cap,cur,rfl,h1,hg,h2⟩
 ·exact .inl h0
 exact kl7
theorem B6.same{l9}{w w'}{p}{v}{L}(h:B6 l9 w p v L)(h1:w'.heap[p]? =w.heap[p]?)(h2:∀g,v.ownBlock=some g->w'.heap[g]? =w.heap[g]?):B6 l9 w' p v L:=
 ⟨h1.trans h.cell,FI h.row h2,h.low,h.I7,h.pos,h.aaq⟩
theorem B6.later{l9}{w w'}{p}{v}{L}(h:B6 l9 w p v L)(hb:qL w w'):B6 l9 w' p v L:=
 h.same (hb.block _ h.lt) (fun g hg=>hb.block g (h.row.lt g hg).2)
theorem wJ{w:qW}{l9 n k}{v}{e}{xs}(h:w.ownsRow l9 e k v n xs):∃ao cap,v= .slice ao n cap:=by
 rcases h.2 with ⟨h1,h2⟩ | ⟨g,cap,cur,rfl,_⟩
 ·subst h2;exact ⟨_,_,h1⟩
 simp_all
theorem Dj{w}{l9}{ao}{cap}{L}(h:w.ownsRow l9 334 3 (.slice ao L.length cap) L.length (mN Hd L)):Q2 w ao L:=by
 have h':=h
 rcases h.2 with ⟨h1,h2⟩ | ⟨g,cap',cur,hv,_⟩
 ·exact .inl (Zi.1 h2)
 cases hv
 refine .inr ⟨g,0,rfl,fun j u hj=> ?_⟩;have hl:=(uK.1 hj).1;rw [mv rF] at hl;rw [Ze,h'.cellAt j hl,hj]
theorem zaW(w):qC 225 #[] w fun e w'=>e= .returned (qP w.heap.size)/\w'=w.alloc (.cells #[qE] 332):=by
 go_enter func225,ntmps225;exact ka7
theorem pI(w)(l9 p)(v)(L)(id)(h:B6 l9 w p v L)(hL:L.length<=1000):
  qC 279 #[qP p,qI id] w (qR (qI (DD id L)) w):=by
 obtain ⟨ao,cap,rfl⟩:=wJ h.row;have eg:∀args w,(callFunc 335 args).run prog w= .ok (.enter 335 args) w:=enters_of func335 zk rfl;have gK:qL w (w.alloc (.cells #[qI id] 3)):=zh w _;have hc:=CQ (fun l=>decide (l.1=id)) 335 #[qP w.heap.size] eg ao cap L (w.alloc (.cells #[qI id] 3)) (Uo id w.heap.size _ zq zY) zj ((Dj h.row).later gK);have c0:=h.c0;have hpl:=h.lt;have HB:=Lib.hid gK;go_enter func279,ntmps279;go_wp2_with fail;refine hc.mono ?_;rintro e w1 ⟨r,rfl,hr⟩;go_wp2;go_ret;exact ⟨by rw [Vg hr.o.1];rfl,HB.o.trans (hr.o.2.mono zq)⟩
theorem KA(w)(l9 p k)(v)(L)(id)(h:B6 l9 w p v L)(hL:L.length<=1000)(hk:k<=L.length)(hn:id∉L.map (·.1)):
  qC 281 #[qP p,qN k,qI id] w (qR (qI ((k+ot id (L.drop k):Nat):Int)) w):=by
 have HN:Aside (id∉(L.drop k).map (·.1)):=fun hm=>hn (by
  obtain ⟨l,hl,e⟩:=Zm.1 hm
  exact Zm.2 ⟨l,YU hl,e⟩)
 have HS:Aside (ot id (L.drop k)<=L.length - k):=by have:=Bo id (L.drop k);rwa [ZL] at this
 obtain ⟨ao,cap,rfl⟩:=wJ h.row
 have hLc:L.length<=cap:=by
  rcases h.row.2 with ⟨h1,h2⟩ | ⟨g,cap',cur,hv,_,_,h3,_⟩
  ·omega
  cases hv;exact h3
 have eg:∀args w,(callFunc 338 args).run prog w= .ok (.enter 338 args) w:=enters_of func338 zk rfl;have gK:qL w (w.alloc (.cells #[qI id] 3)):=zh w _;have bG:(L.drop k).length=L.length - k:=ZL
 have hc:∀ap,Q2 w ap (L.drop k)->qC 334 #[.slice ap (L.length - k) (cap - k),.func (.func 338) #[] #[qP w.heap.size]] (w.alloc (.cells #[qI id] 3)) _:=fun ap jc=>by
  have:=CQ (fun l=>decide (l.1<id)) 338 #[qP w.heap.size] eg ap (cap - k) (L.drop k) (w.alloc (.cells #[qI id] 3)) (TJ id w.heap.size _ zq zY) (by rw [bG];omega) (jc.later gK);rw [bG] at this;exact this
 have c0:=h.c0;have hpl:=h.lt;have HI:Aside (Q2 w ao L):=Dj h.row;have HB:=Lib.hid gK;clear h eg gK
 obtain ⟨q,hq⟩:∃q,Aside (ot id (L.drop k)=q):=⟨_,rfl⟩
 rw [hq.o] at HS |-
 have hq2:=HS.o;have d0:decide ((q:Int)<0)=false:=zq;have e0:IntKind.i64.wrap ((k:Int)+(q:Int))=(k:Int)+(q:Int):=zw;have HD:=Lib.hid bG;clear bG HS;go_enter func281,ntmps281;go_wp2_with fail
 ·have hd0:L.drop k= []:=YA zj;have fC:=hc ao (.inl hd0);rw [show cap - k=0 by omega] at fC
  have hf:L.length=k+q:=by rw [<-hq.o,hd0];simp only [ot];omega
  have HF:=Lib.hid hf;have bH:cap=k:=yQ
  have c0':w.cell? (qB p)=some (Value.slice ao L.length k):=by rw [<-bH];exact c0
  refine fC.mono ?_;rintro e w1 ⟨r,rfl,hr⟩
  have hr1:r= -1:=by
   rcases hr.o.1 with ⟨h,_⟩ | ⟨i,l,_,hl,_⟩
   ·exact h
   rw [hd0] at hl;simp at hl
  subst hr1;have jg:=HB.o.trans (hr.o.2.mono zq);have c1:=pH jg c0';have H1:=Lib.hid jg;clear jg hr fC hf hd0 bH c0 c0' hc hLc;go_wp2;go_ret;exact ⟨by rw [HF.o];rfl,H1.o⟩
 have hLp:Q2 w (ao.map (fun x=>x.add (k*3))) (L.drop k):=by
  rcases HI.o with h0 | ⟨b,o,rfl,hcell⟩
  ·subst h0;exact .inl zq
  refine .inr ⟨b,o+k*3,by simp [Addr.add],fun j u hj=> ?_⟩;rw [<-rY rF L k hk,ZT] at hj;rw [Yx];exact hcell _ u hj
 refine (hc _ hLp).mono ?_;clear hc HI hLp;rintro e w1 ⟨r,rfl,hr⟩;have jg:=HB.o.trans (hr.o.2.mono zq);have c1:=pH jg c0;have H1:=Lib.hid jg
 rcases zaZ HN.o hr.o.1 with ⟨rfl,hs⟩ | hs
 ·have hf:L.length=k+q:=by rw [hq.o,HD.o] at hs;omega
  have HF:=Lib.hid hf;clear jg hr hs hf;go_wp2;go_ret;exact ⟨by rw [HF.o];rfl,H1.o⟩
 rw [hq.o] at hs;subst hs;clear jg hr;go_wp2;go_ret;exact ⟨zq,H1.o⟩
end
section
open RowKit Maps
theorem Wd(w):(zeroValue 212).run prog w= .ok (pS mM) w:=zeroValue212 w
theorem sE.looks{w}{b n}{f}(h:sE prog 3 w b n f){k}(hk:Wf k):
  (Instr.lookup 185 (.map (some b)) (qI k) true).run prog w= .ok (.tuple #[pS ((f k).getD mM),.bool (f k).isSome]) w:=
 h.A underlying3 underlying185 (Wd w) hk
theorem sE.abO{w}{b n}{f}(h:sE prog 3 w b n f){k}(hk:Wf k):
  (Instr.lookup 185 (.map (some b)) (qI k) false).run prog w= .ok (pS ((f k).getD mM)) w:=
 h.abN underlying3 underlying185 (Wd w) hk
theorem zaq(w):qC 78 #[] w fun e w'=>e= .returned (qP (w.heap.size+1))/\w'=(w.alloc (.map #[] 0)).alloc (.cells #[.map (some w.heap.size),qE] 188):=by
 have ff:= @run_makeMap prog;go_enter func78,ntmps78;exact ka7
end
section
open RowKit
def BU(a b:Int):Int:=if a<b then -1 else if b<a then 1 else 0
theorem zeJ(a)(w):qC 242 #[qI a] w fun e w'=>e= .returned (.bool false)/\w'=w:=by
 go_enter func242,ntmps242;exact ka7
theorem Bh(a b)(w):qC 178 #[qI a,qI b] w fun e w'=>e= .returned (qI (BU a b))/\w'=w:=by
 unfold BU;by_cases h1:a<b
 ·have d1:=decide_eq_true h1;rw [if_pos h1];exact ke7
 have d1:=decide_eq_false h1;rw [if_neg h1];by_cases h2:b<a
 ·have d2:=decide_eq_true h2;rw [if_pos h2];exact ke7
 have d2:=decide_eq_false h2;rw [if_neg h2];exact ke7
def pY(t b t' b':Int):Bool:=if t=t' then decide (b<b') else decide (t<t')
theorem Ec(t b t' b')(w):
  qC 218 #[.agg #[qI t,qI b],.agg #[qI t',qI b']] w (qR (.bool (pY t b t' b')) w):=by
 unfold pY;by_cases h:t=t'
 ·have hd:(t !=t')=false:=by simp [h]
  rw [if_pos h];exact kj6
 have hd:(t !=t')=true:=by simp [h]
 rw [if_neg h];exact kj6
theorem Bz(n)(h0: -9223372036854775808<=n)(h1:n<=9223372036854775807)(w)(aK:Lib.TabIs prog w "internal/strconv.uint64pow10" .u64 Lib.pow10Tab):
  Calls prog 54 #[.int .i64 n] w fun e w'=>e= .returned (.string ⟨(Lib.itoa n).toArray⟩)/\Below w.heap.size w w':=by
 refine (Tryz.strconv_Itoa n h0 h1 w aK).mono ?_
 simp_all [Lib.below_grow,uM]
def mx(a b:Int):Int:=max a b
end
section
def aam(w:qW)(so:qO)(xs:List Int):Prop:=∀(i:Nat) (x:Int),xs[i]? =some x->∃g o,so=some (qA g o)/\w.cell? (qA g (o+i))=some (qI x)

end