import Derived.Test.YtjclejjkganhfaaGreatDoorMacB
import Derived.Sort.LotA
import Derived.Maps.OwnSet
import Derived.Laws.IdiomCopy
import Derived.Laws.OwnMore
import Derived.Laws.AppendOwn
import Derived.RangeFuncNested
import Derived.RangeFuncBox
import Derived.RangeFuncLeaves
import Derived.OwnWalkIn
import Derived.TacticsInMore
import Derived.LoopNIn
import Derived.LoopIn
import Derived.WalkSmall
import Derived.RegionTactic
import Derived.Laws.Pointers
import Derived.Carry
import Derived.Lib.Hide
import Derived.ChangeArms
import Derived.ChangeSame
import Derived.WideShapes
import Derived.Deep.Slices
set_option linter.unusedSimpArgs false
set_option linter.unusedVariables false
set_option maxRecDepth 100000
set_option maxHeartbeats 64000000
namespace Go.Proofs.YtjclejjkganhfaaGreatDoor
open Go.Proofs.Tryz
section
abbrev Ltr:=Int×Nat×Bool
def laid(x:Ltr):List Ltr->List Ltr
 | []=>[x]
 | h::t=>if x.1<h.1 then h::laid x t else x::h::t
def GJ(b:Int)(x:Ltr):List Ltr->List Ltr
 | []=>[]
 | h::t=>if h.1=b then h::laid x t else h::GJ b x t
def put(b:Int)(x:Ltr)(L:List Ltr):List Ltr:=if b=0 then laid x L else GJ b x L
theorem nT{x h}(k:x.1<h.1)(t):laid x (h::t)=h::laid x t:=by simp [laid,k]
theorem tI{x h}(k:¬x.1<h.1)(t):laid x (h::t)=x::h::t:=by simp [laid,k]
theorem rJ{b}{x h}(k:h.1=b)(t):GJ b x (h::t)=h::laid x t:=by simp [GJ,k]
theorem oK{b}{x h}(k:h.1≠b)(t):GJ b x (h::t)=h::GJ b x t:=by simp [GJ,k]
theorem wY(x y)(h:x.1≠y.1):∀L,laid y (laid x L)=laid x (laid y L)
 | []=>by
  grind [laid,nT,tI]
 | g::t=>by
  by_cases kx:x.1<g.1
  ·by_cases ky:y.1<g.1
   ·rw [nT kx,nT ky,nT ky,nT kx,wY x y h t]
   rw [nT kx,tI ky,tI ky,nT zj,nT kx]
  grind [tI,nT]
theorem rp(x y)(b)(h:x.1≠y.1)(hb:b≠x.1):∀L,GJ b y (laid x L)=laid x (GJ b y L)
 | []=>by
  rw [show laid x []= [x] from rfl,oK (fun e=>hb e.symm)];rfl
 | g::t=>by
  by_cases kx:x.1<g.1
  ·rw [nT kx];by_cases kb:g.1=b
   ·rw [rJ kb,rJ kb,nT kx,wY x y h t]
   rw [oK kb,oK kb,nT kx,rp x y b h hb t]
  grind [tI,oK,rJ]
theorem Fo(x y)(a b)(h:x.1≠y.1)(ha:a≠y.1)(hb:b≠x.1):∀L,GJ b y (GJ a x L)=GJ a x (GJ b y L)
 | []=>rfl
 | g::t=>by
  by_cases ka:g.1=a
  ·grind [rJ,wY,oK,rp]
  rw [oK ka];by_cases kb:g.1=b
  ·grind [rJ,oK,rp]
  rw [oK kb,oK kb,oK ka,Fo x y a b h ha hb t]
theorem Te(x y)(a b)(h:x.1≠y.1)(ha:a≠y.1)(hb:b≠x.1)(L):put b y (put a x L)=put a x (put b y L):=by
 unfold put;by_cases h0:a=0
 ·rw [if_pos h0,if_pos h0];by_cases h1:b=0
  ·rw [if_pos h1,if_pos h1,wY x y h]
  simp_all [if_neg,rp]
 rw [if_neg h0,if_neg h0];by_cases h1:b=0
 ·rw [if_pos h1,if_pos h1,rp y x a (fun e=>h e.symm) ha]
 simp_all [if_neg,Fo]
def nj(s:List (Int×Ltr))(L:List Ltr):List Ltr:=s.foldl (fun L m=>put m.1 m.2 L) L
theorem pY(s r)(L):nj (s++r) L=nj r (nj s L):=by simp [nj]
theorem sO(m)(L):nj [m] L=put m.1 m.2 L:=rfl
theorem Cw(m:Int×Ltr):∀(r:List (Int×Ltr)) (L:List Ltr),(∀y∈r,m.2.1≠y.2.1/\m.1≠y.2.1/\y.1≠m.2.1)->nj r (put m.1 m.2 L)=put m.1 m.2 (nj r L)
 | [],_,_=>rfl
 | y::r,L,h=>by
  obtain ⟨h1,h2,h3⟩:=h y zr
  show nj r (put y.1 y.2 (put m.1 m.2 L))=put m.1 m.2 (nj r (put y.1 y.2 L))
  rw [Te m.2 y.2 m.1 y.1 h1 h2 h3];exact Cw m r _ (fun z hz=>h z (by simp [hz]))
def Ea(s:List (Int×Ltr)):Prop:=(s.map (·.2.1)).Nodup/\(∀m∈s,m.2.1≠0)/\∀u m v,s=u++m::v->m.1=0\/∃y∈u,y.2.1=m.1
theorem DC{s}{m}(h:Ea (s++ [m])):Ea s:=by
 obtain ⟨h1,h2,h3⟩:=h;rw [ZL] at h1;refine ⟨(ZI.1 h1).1,fun x hx=>h2 x (by simp [hx]),fun u x v e=>h3 u x (v++ [m]) (by rw [e];simp)⟩
theorem LW{s}{m}(h:Ea (s++ [m])):∀y∈s,y.2.1≠m.2.1/\y.1≠m.2.1:=by
 obtain ⟨h1,h2,h3⟩:=h;rw [ZL] at h1
 have hd:∀y∈s,y.2.1≠m.2.1:=fun y hy e=>(ZI.1 h1).2.2 _ (Zj.2 ⟨y,hy,rfl⟩) _ zr e
 intro y hy;refine ⟨hd y hy,fun e=> ?_⟩;obtain ⟨u,v,rfl⟩:=List.append_of_mem hy
 grind
theorem Ke{u v}{m}(h:Ea (u++m::v))(hm:∀y∈v,y.1≠m.2.1):Ea (u++v):=by
 obtain ⟨h1,h2,h3⟩:=h;have dy:(u++v).Sublist (u++m::v):=List.Sublist.append_left (List.sublist_cons_self _ _) u;refine ⟨h1.sublist (dy.map _),fun x hx=>h2 x (dy.subset hx),fun a x b e=> ?_⟩
 rcases List.append_eq_append_iff.1 e with ⟨c,rfl,hc⟩ | ⟨c,rfl,hc⟩
 ·rcases h3 (u++m::c) x b (by rw [hc];simp) with h0 | ⟨z,hz,he⟩
  ·exact .inl h0
  grind
 cases c with
 | nil=>
  simp only [Yd,ZF] at hc h3 |-
  rcases h3 (a++ [m]) x b (by rw [<-hc];simp) with h0 | ⟨z,hz,he⟩
  ·exact .inl h0
  grind
 | cons y c=>
  injection hc with e1 e2;subst e1;exact h3 a x (c++m::v) zr
theorem sy{α:Type} :∀(l:List α),l= []\/∃s m,l=s++ [m]
 | []=>.inl rfl
 | x::t=>by
  rcases sy t with rfl | ⟨s,m,rfl⟩
  ·exact .inr ⟨[],x,rfl⟩
  exact .inr ⟨x::s,m,rfl⟩
theorem wS:∀(n:Nat) (s r:List (Int×Ltr)),s.length=n->s.Perm r->Ea s->Ea r->nj s []=nj r []
 | 0,s,r,hn,hp,_,_=>by
  simp_all
 | n+1,s,r,hn,hp,hs,hr=>by
  rcases sy s with rfl | ⟨s',m,rfl⟩
  ·simp at hn
  obtain ⟨u,v,rfl⟩:=List.append_of_mem (hp.mem_iff.1 (show m∈s'++ [m] by simp));have hl:=LW hs
  have dX:s'.Perm (u++v):=by
   have h1:=((List.perm_append_singleton m s').symm.trans hp).trans List.perm_middle;exact h1.cons_inv
  have hv:∀y∈v,y.2.1≠m.2.1/\y.1≠m.2.1:=fun y hy=>hl y (dX.mem_iff.2 (by simp [hy]))
  have hmv:∀y∈v,m.1≠y.2.1:=by
   intro y hy e;obtain ⟨h1,h2,h3⟩:=hr
   rcases h3 u m v rfl with h0 | ⟨z,hz,he⟩
   ·exact h2 y (by simp [hy]) (by rw [<-e,h0])
   rw [ZL,ZS] at h1;exact (ZI.1 h1).2.2 _ (Zj.2 ⟨z,hz,rfl⟩) _ (uY _ (Zj.2 ⟨y,hy,rfl⟩)) (by rw [he,e])
  have hr':=Ke hr (fun y hy=>(hv y hy).2);have ih:=wS n s' (u++v) vm dX (DC hs) hr';rw [pY,sO,ih,show u++m::v=u++([m]++v) by simp,pY,pY,pY,sO]
  grind [Cw]
def ou(x:Int):List Ltr->Nat
 | []=>0
 | h::t=>if x<h.1 then ou x t+1 else 0
def oO(b:Int):List Ltr->Option Nat
 | []=>none
 | h::t=>if h.1=b then some 0 else (oO b t).map (· +1)
theorem BU(x):∀L,ou x L<=L.length
 | []=>uL _
 | h::t=>by
  unfold ou;split
  ·have:=BU x t;simp;omega
  omega
theorem Eh{x} :∀ {L:List Ltr} {n:Nat},n<=L.length->(∀i l,i<n->L[i]? =some l->x<l.1)->(∀l,L[n]? =some l->¬x<l.1)->ou x L=n
 | [],n,hn,_,_=>by simp at hn;simp [ou,hn]
 | g::t,0,_,_,h2=>by
  unfold ou
  simp_all
 | g::t,n+1,hn,h1,h2=>by
  unfold ou;rw [if_pos (h1 0 g zj rfl),Eh (n:=n) vm (fun i l hi e=>h1 (i+1) l zj yF) (fun l e=>h2 l yF)]
theorem JM(x):∀L,laid x L=L.take (ou x.1 L)++x::L.drop (ou x.1 L)
 | []=>rfl
 | h::t=>by
  unfold ou;by_cases k:x.1<h.1
  ·rw [nT k,if_pos k,JM x t];rfl
  rw [tI k,if_neg k];rfl
theorem oS{b} :∀ {L:List Ltr} {i:Nat},oO b L=some i->∃l,L[i]? =some l/\l.1=b
 | [],i,h=>by simp [oO] at h
 | g::t,i,h=>by
  unfold oO at h;split at h
  ·grind
  cases hf:oO b t with
  | none=>rw [hf] at h;cases h
  | some j=>
   rw [hf] at h
   cases h
   obtain ⟨l,h1,h2⟩:=oS hf
   simp_all
theorem Aw{b} :∀ {L:List Ltr},oO b L=none->∀l∈L,l.1≠b
 | [],_,l,hl=>uh
 | g::t,h,l,hl=>by
  unfold oO at h;split at h
  ·cases h
  have hf:oO b t=none:=xl
  rcases uX.1 hl with rfl | hl
  ·assumption
  exact Aw hf l hl
theorem rg{b}{L}(h:b∈L.map (·.1)):∃i,oO b L=some i:=by
 cases hf:oO b L with
 | some i=>exact ⟨i,rfl⟩
 | none=>
  obtain ⟨l,hl,e⟩:=Zj.1 h;exact absurd e (Aw hf l hl)
theorem KT{b} :∀ {L:List Ltr} {i:Nat} {l:Ltr},L[i]? =some l->l.1=b->(∀j g,j<i->L[j]? =some g->g.1≠b)->oO b L=some i
 | [],i,l,e,_,_=>by simp at e
 | g::t,0,l,e,h,_=>by
  cases e
  unfold oO;rw [if_pos h]
 | g::t,i+1,l,e,h,hn=>by
  unfold oO;rw [if_neg (hn 0 g zj rfl),KT (L:=t) (i:=i) yF h (fun j g' hj e'=>hn (j+1) g' zj (by simpa using e'))];rfl
theorem Mc(b)(x):∀(L:List Ltr) (i:Nat),oO b L=some i->GJ b x L=L.take (i+1+ou x.1 (L.drop (i+1)))++x::L.drop (i+1+ou x.1 (L.drop (i+1)))
 | [],i,h=>by simp [oO] at h
 | g::t,i,h=>by
  unfold oO at h;by_cases k:g.1=b
  ·rw [if_pos k] at h
   grind [ou,rJ,JM]
  rw [if_neg k] at h
  cases hf:oO b t with
  | none=>rw [hf] at h;cases h
  | some j=>
   rw [hf] at h
   cases h
   have e:j+1+1+ou x.1 ((g::t).drop (j+1+1))=j+1+ou x.1 (t.drop (j+1))+1:=by show j+1+1+ou x.1 (t.drop (j+1))=_;omega
   rw [oK k,Mc b x t j hf,e];rfl
def sd(b id:Int)(L:List Ltr):Nat:=if b=0 then ou id L else match oO b L with
 | none=>0
 | some i=>i+1+ou id (L.drop (i+1))
theorem Ou{b}{x}{L}(h:b=0\/b∈L.map (·.1)):sd b x.1 L<=L.length/\put b x L=L.take (sd b x.1 L)++x::L.drop (sd b x.1 L):=by
 unfold put sd;by_cases h0:b=0
 ·simp_all [if_pos,BU,JM]
 rw [if_neg h0,if_neg h0]
 grind [rg,oS,BU,ZH,Mc]
theorem BR{b}{x}{L}(h:b=0\/b∈L.map (·.1)):(put b x L).Perm (x::L):=by
 rw [(Ou h).2]
 grind [Zx]
theorem WD{b}{x}{L}(h:b=0\/b∈L.map (·.1)):(put b x L).length=L.length+1:=by rw [(BR h).length_eq];rfl
theorem NV{b}{x}{L}(h:b=0\/b∈L.map (·.1)):((put b x L).map (·.1)).Perm (x.1::L.map (·.1)):=(BR h).map _
def X9(id:Int)(L:List Ltr):List Ltr:=L.map fun l=>if l.1=id then (l.1,l.2.1,true) else l
def nV(L:List Ltr):List Ltr:=L.filter fun l=> !l.2.2
def Wl(p:Ltr->Bool)(zs:List Ltr)(r:Int):Prop:=
 (r= -1/\∀l∈zs,p l=false)\/∃(i:Nat) (l:Ltr),r=(i:Int)/\zs[i]? =some l/\p l=true/\∀j g,j<i->zs[j]? =some g->p g=false
def DZ(b:Int)(L:List Ltr):Int:=match oO b L with
 | none=> -1
 | some i=>(i:Int)
theorem TU{b r}{L}(h:Wl (fun l=>decide (l.1=b)) L r):r=DZ b L:=by
 unfold DZ
 rcases h with ⟨rfl,h⟩ | ⟨i,l,rfl,hl,hp,hn⟩
 ·grind [oO,oS,uP]
 rw [KT hl (by simpa using hp) (fun j g hj hg=>zM)]
theorem re{b}{L}(h:b∉L.map (·.1)):DZ b L= -1:=by
 grind [DZ,oO,oS,uP]
theorem FA{b}{L}(h:b∈L.map (·.1)):∃i:Nat,DZ b L=(i:Int)/\oO b L=some i/\i<L.length:=by
 grind [rg,oS,DZ]
theorem Xs{id r}{L}(hn:id∉L.map (·.1))(h:Wl (fun l=>decide (l.1<id)) L r):(r= -1/\ou id L=L.length)\/r=(ou id L:Int):=by
 have hne:∀l∈L,l.1≠id:=fun l hl e=>hn (Zj.2 ⟨l,hl,e⟩)
 rcases h with ⟨rfl,h⟩ | ⟨i,l,rfl,hl,hp,hq⟩
 ·refine .inl ⟨rfl,Eh zg (fun i l _ e=> ?_) (fun l e=>by simp at e)⟩
  grind
 right;rw [Eh (n:=i) (Ys (uI.1 hl).1) (fun j g hj e=> ?_) (fun g e=> ?_)]
 ·have h1:=hq j g hj e;have h2:=hne g (uP e);simp at h1;omega
 grind
def bare(l:Ltr):Ltr:=if l.2.2 then (l.1,0,true) else l
theorem zaD{L:List Ltr}{i}{l}(h:L[i]? =some l)(c)(g):(L.set i (l.1,c,g)).map (·.1)=L.map (·.1):=by
 rw [List.map_set];apply List.ext_getElem?
 grind
theorem Nm{b}{x}{L}(h:b=0\/b∈L.map (·.1))(hn:(L.map (·.1)).Nodup)(hx:x.1∉L.map (·.1)):((put b x L).map (·.1)).Nodup:=by
 grind [NV]
end
section
abbrev Plc:=Int×Int×ByteArray
abbrev Sta:=Int->Option Plc
abbrev Mov:=(Int×Int)×Plc
def mS:Plc:=(0,0,⟨#[]⟩)
def tB:Sta:=fun _=>none
def Rn(f:Sta):Nat->Int->Int->Bool
 | 0,_,_=>false
 | n+1,l8,of=>match f l8 with
  | none=>false
  | some p=>decide (p.2.1=of) ||Rn f n p.2.1 of
def Ins(f:Sta)(l8 of:Int):Prop:=∃n,Rn f n l8 of=true
theorem Gx{f}{l8}(h:f l8=none)(n)(of):Rn f n l8 of=false:=by
 cases n<;>simp [Rn,h]
theorem wL{f}{l8}{p}(h:f l8=some p)(n)(of):Rn f (n+1) l8 of=(decide (p.2.1=of) ||Rn f n p.2.1 of):=by
 simp [Rn,h]
theorem BT{f}{l8 of}(h:f l8=none):¬Ins f l8 of:=by
 rintro ⟨n,hn⟩;rw [Gx h] at hn
 cases hn
theorem Em{f}{l8 of}{p}(h:f l8=some p):Ins f l8 of↔p.2.1=of\/Ins f p.2.1 of:=by
 constructor
 ·rintro ⟨n,hn⟩
  cases n with
  | zero=>simp [Rn] at hn
  | succ n=>
   rw [wL h,Bool.or_eq_true] at hn;exact hn.imp zr (fun e=>⟨n,e⟩)
 rintro (e | ⟨n,hn⟩)
 ·exact ⟨1,by rw [wL h];simp [e]⟩
 exact ⟨n+1,by rw [wL h,hn];simp⟩
def Pv(f:Sta)(d:Int->Nat):Prop:=∀k p,f k=some p->d p.2.1<d k
theorem zba{f}{x y}{p}(h:f x=some p)(hy:p.2.1=y\/Ins f p.2.1 y):Ins f x y:=(Em h).2 hy
def upd(f:Sta)(k:Int)(v:Option Plc):Sta:=fun x=>if x=k then v else f x
theorem sE(f)(k)(v):upd f k v k=v:=by simp [upd]
theorem pI{f}{k x}{v}(h:x≠k):upd f k v x=f x:=by simp [upd,h]
structure O9 (p:Plc):Prop where
 ne:p.1≠0
 lo:0<=p.1
 hi:p.1<2^62
 lo':0<=p.2.1
 hi':p.2.1<2^62
 sz:p.2.2.size<=60
theorem O9.acz{p}(h:O9 p):p≠mS:=fun e=>h.ne uH
structure wg (f:Sta):Prop where
 ab8:∃d,Pv f d
 Y9:∀k p,f k=some p->p.1=k
 Y8:∀k p,f k=some p->O9 p
theorem zay:wg tB:=⟨⟨fun _=>0,fun k p h=>vd⟩,fun k p h=>vd,fun k p h=>vd⟩
def Gc(f:Sta)(p:Plc):Prop:=p.1=p.2.1\/Ins f p.2.1 p.1
def K6[∀(f:Sta) (p:Plc),Decidable (Gc f p)](f:Sta)(m:Mov):Sta:=if Gc f m.2 then f else upd f m.2.1 (some m.2)
open scoped Classical
theorem oC{f}{m}(h:Gc f m.2):K6 f m=f:=by unfold K6;rw [if_pos h]
theorem oZ{f}{m}(h:¬Gc f m.2):K6 f m=upd f m.2.1 (some m.2):=by unfold K6;rw [if_neg h]
theorem La{f}{m}{x}(h:x≠m.2.1):K6 f m x=f x:=by
 by_cases hi:Gc f m.2
 ·rw [oC hi]
 rw [oZ hi,pI h]
theorem Ob{f}{m}(G:wg f)(hm:O9 m.2):wg (K6 f m):=by
 by_cases hi:Gc f m.2
 ·rw [oC hi];exact G
 rw [oZ hi];obtain ⟨s,c,q,nm⟩:=m
 dsimp only at hi hm |-
 have hcq:c≠q:=fun e=>hi (.inl e)
 have hqc:¬Ins f q c:=fun e=>hi (.inr e)
 refine ⟨?_,fun k p h=> ?_,fun k p h=> ?_⟩
 ·obtain ⟨d,hd⟩:=G.ab8
  classical
  refine ⟨fun x=>if x=c\/Ins f x c then d x+d q+1 else d x,fun k p h=> ?_⟩;by_cases hk:k=c
  ·subst hk;rw [sE] at h
   grind
  rw [pI hk] at h;have h1:=hd k p h;dsimp only;by_cases hp:p.2.1=c\/Ins f p.2.1 c
  ·rw [if_pos hp,if_pos (.inr (zba h hp))];omega
  grind
 ·by_cases hk:k=c
  ·subst hk;rw [sE] at h;cases h;rfl
  rw [pI hk] at h;exact G.Y9 k p h
 by_cases hk:k=c
 ·grind [sE]
 rw [pI hk] at h;exact G.Y8 k p h
def Ve(f:Sta)(l8:Int)(fr:Plc):Sta:=upd f l8 (if fr=mS then none else some fr)
theorem QO{f}{m}(G:wg f):Ve (K6 f m) m.2.1 ((f m.2.1).getD mS)=f:=by
 funext x;unfold Ve;by_cases hx:x=m.2.1
 ·subst hx;rw [sE]
  cases h:f m.2.1 with
  | none=>simp
  | some p=>
   rw [YP,if_neg (G.Y8 _ p h).acz]
 rw [pI hx,La hx]
def Ad[∀(f:Sta) (p:Plc),Decidable (Gc f p)](f:Sta)(ms:List Mov):Sta:=ms.foldl K6 f
theorem MV(f)(ms)(m):Ad f (ms++ [m])=K6 (Ad f ms) m:=by simp [Ad]
theorem Fa:∀(ms:List Mov) (f:Sta),wg f->(∀m∈ms,O9 m.2)->wg (Ad f ms)
 | [],_,G,_=>G
 | m::r,f,G,h=>Fa r (K6 f m) (Ob G (h m zr)) (fun x hx=>h x (by simp [hx]))
def lM[∀(f:Sta) (p:Plc),Decidable (Gc f p)](ms:List Mov):Sta:=Ad tB ms
theorem ro{ms}(h:∀m∈ms,O9 m.2):wg (lM ms):=Fa ms _ zay h
theorem RG(ms)(m):lM (ms++ [m])=K6 (lM ms) m:=MV _ _ _
theorem FG{ms:List Mov}{i}{m}(h:ms[i]? =some m):lM (ms.take (i+1))=K6 (lM (ms.take i)) m:=by
 rw [Zy,h];exact RG _ _
def Ah[∀(f:Sta) (p:Plc),Decidable (Gc f p)](ms:List Mov)(i:Nat):Plc:=match ms[i]? with
 | none=>mS
 | some m=>(lM (ms.take i) m.2.1).getD mS
def SLt(a b:Int×Int):Prop:=a.1<b.1\/(a.1=b.1/\a.2<b.2)
theorem Dj{a} :¬SLt a a:=by unfold SLt;omega
theorem wP{a b c}(h:SLt a b)(k:SLt b c):SLt a c:=by unfold SLt at*;omega
theorem Nb{a b}(h:a≠b)(k:¬SLt a b):SLt b a:=by
 grind [SLt]
def mn(ms:List Mov):Prop:=ms.Pairwise (fun a b=>SLt a.1 b.1)
def sj(ms:List Mov)(i:Nat)(m:Mov):List Mov:=ms.take i++m::ms.drop i
theorem AC(ms)(i)(m):(sj ms i m).Perm (m::ms):=by
 grind [sj,List.perm_middle,Zx]
theorem GW(ms)(i)(m):(sj ms i m).length=ms.length+1:=by
 rw [(AC ms i m).length_eq];rfl
theorem SA{ms}{i}{m}(h:mn ms)(h1:∀x∈ms.take i,SLt x.1 m.1)(h2:∀x∈ms.drop i,SLt m.1 x.1):mn (sj ms i m):=by
 unfold mn sj;rw [List.pairwise_append];refine ⟨h.sublist (List.take_sublist _ _),Zz.2 ⟨h2,h.sublist (List.drop_sublist _ _)⟩,fun a ha b hb=> ?_⟩
 grind [wP]
theorem KB{ms}{i}{m}(hi:i<=ms.length):(sj ms i m).take i=ms.take i:=by
 grind [sj,Nat.min_self]
theorem sf:∀ {l l':List Mov},l.Perm l'->mn l->mn l'->l=l'
 | [],l',hp,_,_=>zL
 | a::r,[],hp,_,_=>zL
 | a::r,b::r',hp,h,h'=>by
  obtain ⟨h1,h2⟩:=Zz.1 h;obtain ⟨h1',h2'⟩:=Zz.1 h'
  have e:a=b:=by
   rcases uX.1 (hp.mem_iff.1 (Zn (a:=a) (l:=r))) with e | ha
   ·exact e
   grind [Zn,wP,Dj]
  subst e;rw [sf (List.perm_cons a |>.1 hp) h2 h2']
structure C3 (f:Sta) (L:List Plc):Prop where
 L3:L.Pairwise (fun a b=>a.1<b.1)
 U5:∀p,p∈L↔f p.1=some p
theorem wU:∀ {L L':List Plc},L.Pairwise (fun a b=>a.1<b.1)->L'.Pairwise (fun a b=>a.1<b.1)->(∀p,p∈L↔p∈L')->L=L'
 | [],[],_,_,_=>rfl
 | [],b::r',_,_,h=>by have:=(h b).2 zr;simp at this
 | a::r,[],_,_,h=>by have:=(h a).1 zr;simp at this
 | a::r,b::r',hl,fw,h=>by
  obtain ⟨h1,h2⟩:=Zz.1 hl;obtain ⟨h1',h2'⟩:=Zz.1 fw
  have e:a=b:=by
   rcases uX.1 ((h a).1 zr) with e | ha
   ·exact e
   rcases uX.1 ((h b).2 zr) with e | hb
   ·exact e.symm
   have x:=h1 b hb;have y:=h1' a ha;omega
  subst e;rw [wU h2 h2' (fun p=> ?_)]
  grind
theorem C3.q{f}{L L'}(h:C3 f L)(h':C3 f L'):L=L':=
 wU h.L3 h'.L3 (fun p=>(h.U5 p).trans (h'.U5 p).symm)
end
section
open Maps
def lL(p:Plc):List Value:=[qI p.1,qI p.2.1,.string p.2.2]
def pG(p:Plc):Value:=.agg #[qI p.1,qI p.2.1,.string p.2.2]
theorem Sz{p q}(h:pG p=pG q):p=q:=by
 grind [pG]
def dat(p:Plc):DataW Unit:=.agg [.lit (.int .i64 p.1),.lit (.int .i64 p.2.1),.lit (.string p.2.2.data.toList)]
theorem Ip{p q}(h:dat p=dat q):p=q:=by
 obtain ⟨a,b,⟨⟨s⟩⟩⟩:=p
 simp_all [dat]
def zdc(l:List Value):Option (DataW Unit×List MemPlace):=match l with
 | [.int .i64 a,.int .i64 b,.string s]=>some (dat (a,b,s),[])
 | _=>none
def Vp(v:Value):Option (DataW Unit×List MemPlace):=match v with
 | .agg cs=>zdc cs.toList
 | _=>none
theorem Ir(p):Vp (pG p)=some (dat p,[]):=rfl
theorem Rk{l}{z}(h:zdc l=some z):∃p:Plc,l= [qI p.1,qI p.2.1,.string p.2.2]/\z=(dat p,[]):=by
 unfold zdc at h
 grind
theorem BH{v}{z}(h:Vp v=some z):∃p,v=pG p/\z=(dat p,[]):=by
 unfold Vp at h;split at h
 ·rename_i cs;obtain ⟨p,e,rfl⟩:=Rk h;refine ⟨p,?_,rfl⟩;unfold pG;rw [<-e]
 cases h
def Wf(k:Int):Prop:=(Lit.int .i64 k).wf=true
theorem EL{k}(h0: -2^63<=k)(h1:k<2^63):Wf k:=by
 unfold Wf;exact ki1
theorem tJ{p}(h:O9 p):Wf p.1/\Wf p.2.1:=by
 have h1:=h.lo;have h2:=h.hi;have h3:=h.lo';have h4:=h.hi'
 grind [EL]
theorem zbb{f}(G:wg f){k}{p}(h:f k=some p):Wf k:=by
 have:=(tJ (G.Y8 k p h)).1;rwa [G.Y9 k p h] at this
def J6(D:DataW Unit)(f:Sta):Prop:=∀k,Wf k->match f k with
 | none=>has D (.int .i64 k)=false
 | some p=>∀z,D.atKey (.int .i64 k) z=dat p
theorem J6.none{D}{f}(h:J6 D f){k}(hk:Wf k)(hf:f k=none):has D (.int .i64 k)=false:=by
 exact kj8
theorem J6.some{D}{f}(h:J6 D f){k}(hk:Wf k){p}(hf:f k=some p)(z):D.atKey (.int .i64 k) z=dat p:=by
 exact kj8
theorem J6.has{D}{f}(h:J6 D f){k}(hk:Wf k):Maps.has D (.int .i64 k)=(f k).isSome:=by
 cases hf:f k with
 | none=>rw [h.none hk hf];rfl
 | some p=>rw [has_true_of_atKey (h.some hk hf)];rfl
theorem J6.at{D}{f}(h:J6 D f){k}(hk:Wf k):D.atKey (.int .i64 k) (dat mS)=dat ((f k).getD mS):=by
 cases hf:f k with
 | none=>rw [atKey_of_not_has (h.none hk hf)];rfl
 | some p=>rw [h.some hk hf];rfl
theorem Bc{a b}(h:a≠b):Lit.int .i64 a≠Lit.int .i64 b:=fun e=>h (by injection e)
section
variable {P:Program} {K E T:TypeId}
def sL(P:Program)(K:TypeId)(w:qW)(b n:Nat)(f:Sta):Prop:=∃D,w.ownsMap P K Vp b n D/\J6 D f
theorem sL.lt{w}{b n}{f}(h:sL P K w b n f):b<w.heap.size:=by
 obtain ⟨D,h,_⟩:=h;exact h.lt
theorem sL.mono{w}{b n n'}{f}(h:sL P K w b n f)(hn:n<=n'):sL P K w b n' f:=by
 obtain ⟨D,h,r⟩:=h;exact ⟨D,h.mono hn,r⟩
theorem sL.same{w w'}{b n}{f}(h:sL P K w b n f)(e:w'.heap[b]? =w.heap[b]?):sL P K w' b n f:=by
 exact kn4
theorem sL.block{w}{b n}{f}(h:sL P K w b n f):∃es aM,w.heap[b]? =some (.map es aM):=by
 obtain ⟨D,⟨es,aM,hb,F⟩,r⟩:=h
 simp_all
theorem LV(w:qW):sL P K (w.alloc (.map #[] 0)) w.heap.size 0 tB:=
 ⟨_,YT w P K Vp,fun _ _=>rfl⟩
theorem sL.F{w}{b n}{f}(h:sL P K w b n f)(hK:P.underlying K=some (.int .i64))(hT:P.underlying T=some (.map K E))(hz:(zeroValue E).run P w= .ok (pG mS) w){k}(hk:Wf k):
  (Instr.lookup T (.map (some b)) (qI k) true).run P w= .ok (.tuple #[pG ((f k).getD mS),.bool (f k).isSome]) w:=by
 obtain ⟨D,h,r⟩:=h;obtain ⟨v,ps,ae,hv⟩:=h.look_ok (int_keyed hK) hT hz (Ir mS) (keyOf_int_mk hK hk);obtain ⟨p,rfl,hp⟩:=BH hv;rw [r.at hk,Prod.mk.injEq] at hp;rw [ae,r.has hk,Ip hp.1]
theorem sL.ab5{w}{b n}{f}(h:sL P K w b n f)(hK:P.underlying K=some (.int .i64))(hT:P.underlying T=some (.map K E))(hz:(zeroValue E).run P w= .ok (pG mS) w){k}(hk:Wf k):
  (Instr.lookup T (.map (some b)) (qI k) false).run P w= .ok (pG ((f k).getD mS)) w:=by
 obtain ⟨D,h,r⟩:=h;obtain ⟨v,ps,ae,hv⟩:=h.lookup (int_keyed hK) hT hz (Ir mS) (keyOf_int_mk hK hk);obtain ⟨p,rfl,hp⟩:=BH hv;rw [r.at hk,Prod.mk.injEq] at hp;rw [ae,Ip hp.1]
theorem RS{D}{f}(h:J6 D f)(hD:IsMap D)(k)(p):J6 (D.put (.int .i64 k) (dat p)) (upd f k (some p)):=by
 intro x hx;by_cases e:x=k
 ·subst e;rw [sE];exact km6
 rw [pI e]
 cases hf:f x with
 | none=>rw [has_put_other (Bc e)];exact h.none hx hf
 | some q=>intro z;rw [atKey_put_other (Bc e)];exact h.some hx hf z
theorem QJ{D}{f}(h:J6 D f)(k):J6 (D.del (.int .i64 k)) (upd f k none):=by
 intro x hx;by_cases e:x=k
 ·grind [sE,has_del_same]
 rw [pI e]
 cases hf:f x with
 | none=>rw [has_del_other (Bc e)];exact h.none hx hf
 | some q=>intro z;rw [atKey_del_other (Bc e)];exact h.some hx hf z
theorem sL.store{w}{b n}{f}(h:sL P K w b n f)(hK:P.underlying K=some (.int .i64))(hT:P.underlying T=some (.map K E))(hn:n<maxLen){k}(hk:Wf k)(p):
  ∃w',(Instr.mapUpdate T (.map (some b)) (qI k) (pG p)).run P w= .ok () w'/\sL P K w' b (n+1) (upd f k (some p))/\w.mapTurned w' b:=by
 obtain ⟨D,h,r⟩:=h;obtain ⟨w',ae,h',ht⟩:=h.store (int_keyed hK) hT hn (keyOf_int_mk hK hk) (Ir p);exact ⟨w',ae,⟨_,h',RS r h.isMap k p⟩,ht⟩
theorem sL.drop{w}{b n}{f}(h:sL P K w b n f)(hK:P.underlying K=some (.int .i64))(hT:P.underlying T=some (.map K E)){k}(hk:Wf k)(ty):
  ∃w',(Builtin.delete_ #[T,K] ty #[.map (some b),qI k]).run P w= .ok (.tuple #[]) w'/\sL P K w' b n (upd f k none)/\w.mapTurned w' b:=by
 obtain ⟨D,h,r⟩:=h;obtain ⟨w',ae,h',ht⟩:=h.drop (int_keyed hK) hT (keyOf_int_mk hK hk) ty;exact ⟨w',ae,⟨_,h',QJ r k⟩,ht⟩
end
end
section
open scoped Classical
abbrev Ent:=Mov×Plc
structure M6 (ms:List Mov) (i:Nat) (L:List Ent):Prop where
 abA:L.map (·.1)=ms
 R5:∀j x,j<i->L[j]? =some x->x.2=Ah ms j
theorem M6.D4{ms}{i}{L}(h:M6 ms i L):L.length=ms.length:=by rw [<-h.abA];simp
theorem M6.mov{ms}{i j:Nat}{L}(h:M6 ms i L){x}(hx:L[j]? =some x):ms[j]? =some x.1:=by rw [<-h.abA];simp [hx]
theorem Nq:M6 [] 0 []:=⟨rfl,fun _ _ h=>zj⟩
theorem CF{ms}{i}{m}(h:ms[i]? =some m):Ah ms i=(lM (ms.take i) m.2.1).getD mS:=by unfold Ah;rw [h]
theorem Gz{ms ms'}{i}(h:ms.take (i+1)=ms'.take (i+1)):Ah ms i=Ah ms' i:=by
 have h1:ms[i]? =ms'[i]? :=by
  have e1:(ms.take (i+1))[i]? =ms[i]? :=by rw [Yj,if_pos zj]
  have e2:(ms'.take (i+1))[i]? =ms'[i]? :=by rw [Yj,if_pos zj]
  rw [<-e1,<-e2,h]
 have h2:ms.take i=ms'.take i:=by
  have e1:(ms.take (i+1)).take i=ms.take i:=xv;have e2:(ms'.take (i+1)).take i=ms'.take i:=xv;rw [<-e1,<-e2,h]
 unfold Ah;rw [h1,h2]
def QH(L:List Ent)(i:Nat)(x:Ent):List Ent:=L.take i++x::L.drop i
theorem TK{ms}{L}{i}{m}(h:M6 ms ms.length L)(hi:i<=ms.length)(fr):M6 (sj ms i m) i (QH L i (m,fr)):=by
 refine ⟨?_,fun j x hj hx=> ?_⟩
 ·unfold QH sj;simp [<-h.abA,List.map_take,List.map_drop]
 have cQ:L[j]? =some x:=by
  unfold QH at hx;rwa [Yh (by simp;have:=h.D4;omega),Yj,if_pos hj] at hx
 rw [h.R5 j x zj cQ];refine Gz ?_;unfold sj
 grind
theorem zby{ms}{L}{i}{x}(h:M6 ms i L)(hx:L[i]? =some x):M6 ms (i+1) (L.set i (x.1,Ah ms i)):=by
 refine ⟨?_,fun j y hj hy=> ?_⟩
 ·rw [<-h.abA,List.map_set];apply List.ext_getElem?
  grind
 by_cases e:j=i
 ·grind
 rw [List.getElem?_set_ne zj] at hy;exact h.R5 j y zj hy
def Iu(ms:List Mov)(s:Int×Int)(i:Nat)(b:Bool):Prop:=
 (b=true/\∃m,ms[i]? =some m/\m.1=s)\/(b=false/\i<=ms.length/\(∀x∈ms.take i,SLt x.1 s)/\∀x∈ms.drop i,SLt s x.1)
def Lc(ms:List Mov)(s:Int×Int)(i:Nat):Prop:=∀x∈ms.drop i,SLt s x.1
theorem NQ(ms)(s):Lc ms s ms.length:=fun x hx=>ya
theorem Mq{ms}{s}{i}{m}(h:ms[i]? =some m)(e:m.1=s):Iu ms s i true:=.inl ⟨rfl,m,h,e⟩
theorem Mt{ms}{s}{i}{m}(hb:mn ms)(hl:Lc ms s (i+1))(h:ms[i]? =some m)(e:SLt m.1 s):Iu ms s (i+1) false:=by
 have hi:=(uI.1 h).1;refine .inr ⟨rfl,zj,fun x hx=> ?_,hl⟩;rw [Zy,h] at hx
 rcases uV.1 hx with hx | hx
 ·refine wP ?_ e
  have hp:(ms.take i++ms.drop i).Pairwise (fun a b=>SLt a.1 b.1):=by rw [Zx];exact hb
  refine (List.pairwise_append.1 hp).2.2 x hx m ?_;rw [List.mem_iff_getElem?];exact ⟨0,by rw [ZO,ZC,h]⟩
 simp_all
theorem MX{ms}{s}{i}{m}(hl:Lc ms s (i+1))(h:ms[i]? =some m)(ne:m.1≠s)(nl:¬SLt m.1 s):Lc ms s i:=by
 intro x hx
 have hi:=(uI.1 h)
 rw [Yg hi.1] at hx
 rcases uX.1 hx with rfl | hx
 ·rw [hi.2];exact Nb ne nl
 exact hl x hx
theorem IX{ms}{s}(hl:Lc ms s 0):Iu ms s 0 false:=.inr ⟨rfl,uW _,fun x hx=>ya,hl⟩
theorem NA{ms}{s}{i}{b}(h:Iu ms s i b)(hn:∀m∈ms,m.1≠s):b=false/\i<=ms.length/\(∀x∈ms.take i,SLt x.1 s)/\∀x∈ms.drop i,SLt s x.1:=by
 rcases h with ⟨_,m,hm,e⟩ | h
 ·grind
 exact h
end
section
open Maps
abbrev XX:=Int->Option Nat
def noT:XX:=fun _=>none
def AG(p:Option Nat):Value:=.pointer (p.map fun b=>(qB b))
def Mk(p:Option Nat):DataW Unit:=match p with
 | none=>.agg []
 | some b=>.agg [.lit (.int .i64 (b:Int))]
theorem KF{p q}(h:Mk p=Mk q):p=q:=by
 cases p<;>cases q<;>simp [Mk] at h |-
 omega
def VM(v:Value):Option (DataW Unit×List MemPlace):=match v with
 | .pointer none=>some (Mk none,[])
 | .pointer (some ⟨b,0,none⟩)=>some (Mk (some b),[])
 | _=>none
theorem Hr(p):VM (AG p)=some (Mk p,[]):=by cases p<;>rfl
theorem FR{v}{z}(h:VM v=some z):∃p,v=AG p/\z=(Mk p,[]):=by
 unfold VM at h;split at h
 ·cases h;exact ⟨none,rfl,rfl⟩
 ·cases h;exact ⟨some _,rfl,rfl⟩
 cases h
def Q1(D:DataW Unit)(f:XX):Prop:=∀k,Wf k->match f k with
 | none=>has D (.int .i64 k)=false
 | some p=>∀z,D.atKey (.int .i64 k) z=Mk (some p)
theorem Q1.X9{D}{f}(h:Q1 D f){k}(hk:Wf k)(hf:f k=none):has D (.int .i64 k)=false:=by
 exact kj8
theorem Q1.held{D}{f}(h:Q1 D f){k}(hk:Wf k){p}(hf:f k=some p)(z):D.atKey (.int .i64 k) z=Mk (some p):=by
 exact kj8
theorem Q1.has{D}{f}(h:Q1 D f){k}(hk:Wf k):Maps.has D (.int .i64 k)=(f k).isSome:=by
 cases hf:f k with
 | none=>rw [h.X9 hk hf];rfl
 | some p=>rw [has_true_of_atKey (h.held hk hf)];rfl
theorem Q1.at{D}{f}(h:Q1 D f){k}(hk:Wf k):D.atKey (.int .i64 k) (Mk none)=Mk (f k):=by
 cases hf:f k with
 | none=>rw [atKey_of_not_has (h.X9 hk hf)]
 | some p=>rw [h.held hk hf]
theorem LD{D}{f}(h:Q1 D f)(hD:IsMap D)(k)(p):Q1 (D.put (.int .i64 k) (Mk (some p))) (fun x=>if x=k then some p else f x):=by
 intro x hx;dsimp only;by_cases e:x=k
 ·subst e;rw [if_pos rfl];exact km6
 rw [if_neg e]
 cases hf:f x with
 | none=>rw [has_put_other (Bc e)];exact h.X9 hx hf
 | some q=>intro z;rw [atKey_put_other (Bc e)];exact h.held hx hf z
def WW(f:XX):Prop:=∀k p,f k=some p->Wf k
structure I5 (w:qW) (b n:Nat) (f:XX):Prop where
 reads:∃D,w.ownsMap prog 3 VM b n D/\Q1 D f
 aaa:WW f
theorem I5.lt{w}{b n}{f}(h:I5 w b n f):b<w.heap.size:=by
 obtain ⟨D,h,_⟩:=h.reads;exact h.lt
theorem I5.same{w w'}{b n}{f}(h:I5 w b n f)(e:w'.heap[b]? =w.heap[b]?):I5 w' b n f:=by
 exact kh3
theorem Hj(w:qW):I5 (w.alloc (.map #[] 0)) w.heap.size 0 noT:=
 ⟨⟨_,YT w prog 3 VM,fun _ _=>rfl⟩,fun k p h=>qa⟩
theorem Je(w):(zeroValue 217).run prog w= .ok (AG none) w:=zeroValue217 w
theorem I5.F{w}{b n}{f}(h:I5 w b n f){k}(hk:Wf k):
  (Instr.lookup 133 (.map (some b)) (qI k) true).run prog w= .ok (.tuple #[AG (f k),.bool (f k).isSome]) w:=by
 obtain ⟨⟨D,h,r⟩,_⟩:=h;obtain ⟨v,ps,ae,hv⟩:=h.look_ok (int_keyed underlying3) underlying133 (Je w) (Hr none) (keyOf_int_mk underlying3 hk);obtain ⟨p,rfl,hp⟩:=FR hv;rw [r.at hk,Prod.mk.injEq] at hp;rw [ae,r.has hk,KF hp.1]
theorem I5.ab5{w}{b n}{f}(h:I5 w b n f){k}(hk:Wf k):
  (Instr.lookup 133 (.map (some b)) (qI k) false).run prog w= .ok (AG (f k)) w:=by
 obtain ⟨⟨D,h,r⟩,_⟩:=h;obtain ⟨v,ps,ae,hv⟩:=h.lookup (int_keyed underlying3) underlying133 (Je w) (Hr none) (keyOf_int_mk underlying3 hk);obtain ⟨p,rfl,hp⟩:=FR hv;rw [r.at hk,Prod.mk.injEq] at hp;rw [ae,KF hp.1]
theorem I5.store{w}{b n}{f}(h:I5 w b n f)(hn:n<maxLen){k}(hk:Wf k)(p):
  ∃w',(Instr.mapUpdate 133 (.map (some b)) (qI k) (AG (some p))).run prog w= .ok () w'/\I5 w' b (n+1) (fun x=>if x=k then some p else f x)/\w.mapTurned w' b:=by
 obtain ⟨⟨D,h,r⟩,g⟩:=h;obtain ⟨w',ae,h',ht⟩:=h.store (int_keyed underlying3) underlying133 hn (keyOf_int_mk underlying3 hk) (Hr (some p));refine ⟨w',ae,⟨⟨_,h',LD r h.isMap k p⟩,fun x q hx=> ?_⟩,ht⟩;split at hx
 ·simp_all
 exact g x q hx
end
section
open RowKit
structure m7 (S:Nat->Prop) (w w':qW):Prop where
 os:w'.os=w.os
 tape:w'.tape=w.tape
 output:w'.output=w.output
 size:w.heap.size<=w'.heap.size
 block:∀k,k<w.heap.size->¬S k->w'.heap[k]? =w.heap[k]?
theorem m7.refl(S)(w):m7 S w w:=⟨rfl,rfl,rfl,uL _,fun _ _ _=>rfl⟩
theorem m7.trans{S}{a b c}(h:m7 S a b)(k:m7 S b c):m7 S a c:=
 ⟨k.os.trans h.os,k.tape.trans h.tape,k.output.trans h.output,uO h.size k.size,fun i hi hs=>(k.block i (uT hi h.size) hs).trans (h.block i hi hs)⟩
theorem m7.then{S T}{a b c}(h:m7 S a b)(k:m7 T b c)(hT:∀i,i<a.heap.size->T i->S i):m7 S a c:=
 ⟨k.os.trans h.os,k.tape.trans h.tape,k.output.trans h.output,uO h.size k.size,fun i hi hs=>(k.block i (uT hi h.size) (fun ht=>hs (hT i hi ht))).trans (h.block i hi hs)⟩
theorem m7.mono{S T}{w w'}(h:m7 S w w')(hs:∀k,k<w.heap.size->S k->T k):m7 T w w':=
 ⟨h.os,h.tape,h.output,h.size,fun k hk ht=>h.block k hk (fun e=>ht (hs k hk e))⟩
theorem lS{w w'}{row}(h:w.grownBy w' row):m7 (fun k=>some k=row) w w':=
 ⟨h.os,h.tape,h.output,h.size,fun k hk hs=>h.block k hk hs⟩
theorem lW{B}{w w'}(h:Below B w w'):m7 (fun k=>B<=k) w w':=
 ⟨h.os,h.tape,h.output,h.size,fun k _ hs=>h.block k zj⟩
theorem m7.m8{S}{w w'}(h:m7 S w w'){B}(hB:B<=w.heap.size)(hs:∀k,S k->B<=k):Below B w w':=
 ⟨h.os,h.tape,h.output,h.size,fun k hk=>h.block k zj (fun e=>by have:=hs k e;omega)⟩
theorem m7.drew{S}{w w'}(h:m7 S w w'):m7 S w w'.drew:=⟨h.os,h.tape,h.output,h.size,h.block⟩
theorem m7.alloc{S}{w w'}(h:m7 S w w')(o):m7 S w (w'.alloc o):=
 h.then (lS (YI w' o none)) (fun _ _ e=>yN)
theorem m7.cell{S}{w w'}(h:m7 S w w'){a}(ha:a.block<w.heap.size)(hs:¬S a.block):w'.cell? a=w.cell? a:=uS (h.block _ ha hs)
def LG(c:Array Value):Nat->List Value->Array Value
 | _,[]=>c
 | o,v::r=>LG (c.setIfInBounds o v) (o+1) r
theorem pP:∀(vs:List Value) (o:Nat) (c:Array Value),(LG c o vs).size=c.size
 | [],_,_=>rfl
 | v::r,o,c=>by rw [LG,pP r];simp
theorem oD:∀(vs A B C:List Value) (c:Array Value),c.toList=A++B++C->B.length=vs.length->(LG c A.length vs).toList=A++vs++C
 | [],A,B,C,c,h,hl=>by
  grind [LG]
 | v::r,A,[],C,c,h,hl=>uh
 | v::r,A,b::B,C,c,h,hl=>by
  have ih:=oD r (A++ [v]) B C (c.setIfInBounds A.length v) (by simp [h]) qw;rw [LG];simpa using ih
theorem mF(b):∀(vs:List Value) (o:Nat) (w:qW) (c:Array Value) (t:TypeId),w.heap[b]? =some (.cells c t (0,0))->(w.setCells b o vs).heap[b]? =some (.cells (LG c o vs) t (0,0))
 | [],_,_,_,_,h=>h
 | v::r,o,w,c,t,h=>mF b r (o+1) _ _ t (heap_setCell_same w b o c t v h)
theorem mW(b):∀(vs:List Value) (o:Nat) (w:qW) (k:Nat),k≠b->(w.setCells b o vs).heap[k]? =w.heap[k]?
 | [],_,_,_,_=>rfl
 | v::r,o,w,k,h=>by rw [World.setCells,mW b r _ _ k h];grind [heap_setCell_other]
theorem lZ(b):∀(vs:List Value) (o:Nat) (w:qW),m7 (fun k=>k=b) w (w.setCells b o vs)
 | [],_,w=>m7.refl _ w
 | v::r,o,w=>by
  refine m7.trans (b:=w.setCell (qA b o) v) ⟨rfl,rfl,rfl,?_,fun k _ hk=>heap_setCell_other w (qA b o) k v hk⟩ (lZ b r (o+1) _);simp [World.setCell]
theorem nk{P}(w)(dT sT ty elem)(k b o dLen dCap)(a)(sLen sCap)(cs)
  (hu:P.underlying dT=some (.slice elem)) (hs:(P.info? elem).map (·.size)=some k) (hn:cs.length=Nat.min sLen dLen*k)
  (hsrc:∀j v,cs[j]? =some v->w.cell? (a.add j)=some v) (hc:∀j,j<cs.length->(w.cell? (qA b (o+j))).isSome=true) (hf:∀j,j<cs.length->w.frozen? (qA b (o+j))=false) (h1:∀v∈cs,v.oneCell'=true):
  (Builtin.copy_ #[dT,sT] ty #[.slice (some (qA b o)) dLen dCap,.slice (some a) sLen sCap]).run P w= .ok (goInt (Nat.min sLen dLen)) (w.setCells b o cs):=by
 have hl:=run_loadCells_list (P:=P) w a cs hsrc;have hst:=run_storeCells_cells (P:=P) b o cs 0 w (by simpa using hc) (by simpa using hf) h1
 cases hq:P.info? elem with
 | none=>simp [hq] at hs
 | some i=>
  have hi:i.size=k:=by simpa [hq] using hs
  simp only [ZC] at hst;simp [Builtin.copy_,run_underlying hu,Builtin.lenOf,Builtin.firstCells,sizeOf,typeInfo,hq,hi,<-hn,hl,hst]
theorem IS{w:qW}{l9 k g n cap i}{E}{xs vs}(h:w.ownsRow l9 E k (qG g n cap) n xs)(ar:n+1<=cap)(hi:i<=n)(hv:vs.length=k):
  ((w.setCells g ((i+1)*k) (xs.drop (i*k))).setCells g (i*k) vs).ownsRow l9 E k (qG g (n+1) cap) (n+1) (xs.take (i*k)++vs++xs.drop (i*k)):=by
 obtain ⟨hl,h2⟩:=h
 rcases h2 with ⟨hc,_⟩ | ⟨g',cap',cur,hc,hb,hg,hn,hm,hs,ht⟩
 ·cases hc
 cases hc
 have hik:=ZG k hi;have hnk:(n+1)*k=n*k+k:=xZ;have gD:(i+1)*k=i*k+k:=xZ;have bA:=ZG k ar
 have dQ:cur.toList.length=cap*k:=by simpa using hs
 have jT:cur.toList=xs++cur.toList.drop (n*k):=by
  conv=>lhs;rw [<-Zx (n*k) cur.toList]
  rw [ht]
 obtain ⟨C,hC⟩:=za (cur.toList.drop (n*k));rw [<-hC] at jT
 have bw:(xs.drop (i*k)).length=n*k - i*k:=by rw [ZH,hl]
 have aV:(xs.take (i*k)).length=i*k:=by rw [Zr,hl];omega
 have hg1:=mF g (xs.drop (i*k)) ((i+1)*k) w cur E hg
 have e1:(cur.toList.take ((i+1)*k)).length=(i+1)*k:=by rw [Zr,dQ];omega
 have o1:=oD (xs.drop (i*k)) (cur.toList.take ((i+1)*k)) ((cur.toList.drop ((i+1)*k)).take (n*k - i*k)) ((cur.toList.drop ((i+1)*k)).drop (n*k - i*k)) cur
  (by grind [Zo,Zx]) zM
 rw [e1] at o1;obtain ⟨c1,hc1⟩:=za (LG cur ((i+1)*k) (xs.drop (i*k)));rw [<-hc1] at o1 hg1
 have aI:c1.size=cap*k:=by rw [hc1,pP,hs]
 have hg2:=mF g vs (i*k) _ c1 E hg1
 have hA:cur.toList.take ((i+1)*k)=xs.take (i*k)++(cur.toList.drop (i*k)).take k:=by
  rw [gD,List.take_add];congr 1;rw [jT,Yk zj]
 have o2:=oD vs (xs.take (i*k)) ((cur.toList.drop (i*k)).take k) (xs.drop (i*k)++(cur.toList.drop ((i+1)*k)).drop (n*k - i*k)) c1
  zM zM
 rw [aV] at o2;refine ⟨?_,.inr ⟨g,cap,_,rfl,hb,hg2,ar,hm,by rw [pP,aI],?_⟩⟩
 ·grind
 rw [o2,<-Zo,Yk zM,Zk zM]
theorem LR{w:qW}{l9 k g n G i}{E}{xs vs Z:List Value}{row}(hg:w.heap[g]? =some (.cells row E (0,0)))(hrow:row.toList=xs.take (i*k)++Z)(hs:row.size=G*k)
  (hb:l9<=g) (ar:n+1<=G) (hm:G<=maxLen) (hi:i<=n) (hl:xs.length=n*k) (hv:vs.length=k):
  ((w.setCells g (i*k) vs).setCells g ((i+1)*k) (xs.drop (i*k))).ownsRow l9 E k (qG g (n+1) G) (n+1) (xs.take (i*k)++vs++xs.drop (i*k)):=by
 have hik:=ZG k hi;have hnk:(n+1)*k=n*k+k:=xZ;have gD:(i+1)*k=i*k+k:=xZ;have bA:=ZG k ar
 have bw:(xs.drop (i*k)).length=n*k - i*k:=by rw [ZH,hl]
 have aV:(xs.take (i*k)).length=i*k:=by rw [Zr,hl];omega
 have hZl:Z.length=G*k - i*k:=by
  have:row.toList.length=G*k:=by simpa using hs
  rw [hrow,uQ,aV] at this;omega
 have hg1:=mF g vs (i*k) w row E hg;have o1:=oD vs (xs.take (i*k)) (Z.take k) (Z.drop k) row (by rw [hrow,Zo,Zx]) (by rw [Zr,hZl,hv];omega);rw [aV] at o1;obtain ⟨c1,hc1⟩:=za (LG row (i*k) vs);rw [<-hc1] at o1 hg1
 have aI:c1.size=G*k:=by rw [hc1,pP,hs]
 have hg2:=mF g (xs.drop (i*k)) ((i+1)*k) _ c1 E hg1
 have hal:(xs.take (i*k)++vs).length=(i+1)*k:=by rw [uQ,aV,hv,gD]
 have o2:=oD (xs.drop (i*k)) (xs.take (i*k)++vs) ((Z.drop k).take (n*k - i*k)) ((Z.drop k).drop (n*k - i*k)) c1
  (by rw [o1];simp only [Zo,Zx]) (by rw [Zr,ZH,hZl,bw];omega)
 rw [hal] at o2;refine ⟨?_,.inr ⟨g,G,_,rfl,hb,hg2,ar,hm,by rw [pP,aI],?_⟩⟩
 ·rw [uQ,hal,bw];omega
 grind [uQ,Zk]
end
section
section
variable {α:Type} {enc:α→List Value} {k:Nat}
def mP(enc:α->List Value)(L:List α):List Value:=L.flatMap enc
theorem rk(x)(L):mP enc (x::L)=enc x++mP enc L:=rfl
theorem nR(L M):mP enc (L++M)=mP enc L++mP enc M:=by simp [mP]
theorem mu(hk:∀x,(enc x).length=k):∀L:List α,(mP enc L).length=L.length*k
 | []=>by simp [mP]
 | x::L=>by rw [rk,uQ,hk,mu hk L,Za,Nat.succ_mul];omega
theorem Bl(hk:∀x,(enc x).length=k)(L)(i)(hi:i<=L.length):(mP enc L).take (i*k)=mP enc (L.take i):=by
 conv=>lhs;rw [<-Zx i L]
 rw [nR,Yk qp,Zk qp]
theorem rQ(hk:∀x,(enc x).length=k)(L)(i)(hi:i<=L.length):(mP enc L).drop (i*k)=mP enc (L.drop i):=by
 conv=>lhs;rw [<-Zx i L]
 rw [nR,List.drop_append_of_le_length qp,Yx qp];rfl
theorem mi(hk:∀x,(enc x).length=k){L}{i c}{x}(hx:L[i]? =some x)(hc:c<k):(mP enc L)[i*k+c]? =(enc x)[c]? :=by
 obtain ⟨ce,hie⟩:=uI.1 hx
 have h1:(mP enc L)[i*k+c]? =((mP enc L).drop (i*k))[c]? :=by rw [ZO]
 grind [rQ,Yg,rk,Yh]
theorem Jr(hk:∀x,(enc x).length=k)(L)(i)(hi:i<=L.length)(x):mP enc (L.take i++x::L.drop i)=(mP enc L).take (i*k)++enc x++(mP enc L).drop (i*k):=by
 grind [nR,rk,Bl,rQ,Zo]
theorem BS(hk:∀x,(enc x).length=k)(L)(i)(hi:i<L.length)(x):mP enc (L.set i x)=(mP enc L).take (i*k)++enc x++(mP enc L).drop ((i+1)*k):=by
 rw [List.set_eq_take_append_cons_drop,if_pos hi,nR,rk,Bl hk L i zj,rQ hk L (i+1) zj,Zo]
theorem sC(h1:∀x,∀v∈enc x,v.oneCell'=true)(L):∀v∈mP enc L,v.oneCell'=true:=by
 intro v hv;obtain ⟨x,_,hx⟩:=List.mem_flatMap.1 hv;exact h1 x v hx
end
theorem GU{w:qW}{l9 k g n cap}{E}{A B C vs}(h:w.ownsRow l9 E k (qG g n cap) n (A++B++C))(hl:B.length=vs.length):
  (w.setCells g A.length vs).ownsRow l9 E k (qG g n cap) n (A++vs++C):=by
 obtain ⟨hlen,h2⟩:=h
 rcases h2 with ⟨hc,_⟩ | ⟨g',cap',cur,hc,hb,hg,hn,hm,hs,ht⟩
 ·cases hc
 cases hc
 have hlen':(A++vs++C).length=n*k:=by rw [<-hlen];simp [hl]
 refine ⟨hlen',.inr ⟨g,cap,_,rfl,hb,mF g vs A.length w cur E hg,hn,hm,by rw [pP,hs],?_⟩⟩
 have jT:cur.toList=A++B++(C++cur.toList.drop (n*k)):=by
  conv=>lhs;rw [<-Zx (n*k) cur.toList]
  rw [ht];simp
 rw [oD vs A B _ cur jT hl,<-Zo,Yk zj,Zk zj]
theorem Bn{P}(w)(l9)(t ty e)(i)(z)(size bytes)(ht:P.underlying t=some (.slice e))(hi:P.info? e=some i)(hz:i.zero=some z)
  (eE:i.size=size) (bJ:i.bytes=bytes) (fK:z.cells.size=size) (hsz:0<size)
  (v) (n) (xs) (hown:w.ownsRow l9 e size v n xs)
  (a) (m c) (jK:0<m) (news) (hl:news.length=m*size) (bB:∀j u,news[j]? =some u->w.cell? (a.add j)=some u) (h1:∀u∈news,u.oneCell'=true)
  (h63:n+m<=maxLen) (dj:(n+m)*bytes<=140737488355328) (aj:l9<=w.heap.size):
  ∃v' w',(Builtin.append_ #[t,t] ty #[v,.slice (some a) m c]).run P w= .ok v' w'/\w'.ownsRow l9 e size v' (n+m) (xs++news)/\w.grownBy w' v.ownBlock/\
   (v'.ownBlock=v.ownBlock\/v'.ownBlock=some w.heap.size):=by
 obtain ⟨v',w',ae,h',hg',-⟩:=run_append_own (P:=P) w l9 t ty e i z size bytes ht hi hz eE bJ fK hsz v n xs hown a m c news hl bB h1 h63 dj aj;refine ⟨v',w',ae,h',hg',?_⟩;subst eE;subst bJ
 have hsmall:n+m<=9223372036854775807:=by simp only [maxLen] at h63;omega
 rcases hown.2 with ⟨rfl,rfl⟩ | ⟨g,cap,cur,rfl,hbg,hg,hnc,hcm,hcs,htake⟩
 ·have hr:=run_append_nil (P:=P) w t ty e i z ht hi hz a m c news hl bB zj zj zM;exact kn5
 by_cases ar:n+m<=cap
 ·have jQ:n*i.size+news.length<=cur.size:=by rw [hl,hcs,<-YC];exact ZG _ ar
  have hr:=run_append_room (P:=P) w t ty e i ht hi g n cap cur hg a m c news hl bB h1 ar jQ;rw [hr] at ae;simp only [Result.ok.injEq] at ae;left;rw [<-ae.1];rfl
 have holds:=hown.cells (g:=g) rfl;have hr:=run_append_grow (P:=P) w t ty e i z ht hi hz (qB g) n cap xs hown.1 holds a m c news hl bB zj zj (growslice_fits zj dj);exact kn5
end
section
open RowKit Shelf
attribute [local go_sem] Oper.semAt_some
def tQ(x:Ent):List Value:=[qI x.1.1.1,qI x.1.1.2,qI x.1.2.1,qI x.1.2.2.1,.string x.1.2.2.2,qI x.2.1,qI x.2.2.1,.string x.2.2.2]
theorem rD(x):(tQ x).length=8:=rfl
theorem KW(x):∀v∈tQ x,v.oneCell'=true:=by
 intro v hv;simp only [tQ,uX,ZP,or_false] at hv;exact kh2
def zc1:Ent:=(((0,0),mS),mS)
def nt(L:List Ent)(r:Nat):Ent:=L.getD (L.length - 1 - r) zc1
def zcd(L:List Ent)(r:Nat):Array Value:= #[qI ((L.length - 1 - r:Nat):Int),.agg #[qI (nt L r).1.1.1,qI (nt L r).1.1.2,qI (nt L r).1.2.1,qI (nt L r).1.2.2.1,.string (nt L r).1.2.2.2,qI (nt L r).2.1,qI (nt L r).2.2.1,.string (nt L r).2.2.2]]
def D8(g h:Nat)(W W':qW):Prop:=W'.heap[g]? =W.heap[g]? /\W'.heap[h]? =W.heap[h]?
theorem D8.refl(g h)(W):D8 g h W W:=⟨rfl,rfl⟩
theorem D8.trans{g h}{A B C}(x:D8 g h A B)(y:D8 g h B C):D8 g h A C:=⟨y.1.trans x.1,y.2.trans x.2⟩
theorem D8.put{g h N}(hg:g<N)(hh:h<N)(W)(l)(o')(hl:N<=l):D8 g h W (W.putObj l o'):=
 ⟨Yb zj,Yb zj⟩
def V8(W:qW)(g off:Nat)(L:List Ent):Prop:=∀j u,(mP tQ L)[j]? =some u->W.cell? (qA g (off+j))=some u
theorem V8.same{W W'}{g off}{L}(h:V8 W g off L)(e:W'.heap[g]? =W.heap[g]?):V8 W' g off L:=fun j u hj=>by
 have:=h j u hj
 grind [uS]
theorem V8.at{W}{g off}{L}(h:V8 W g off L){i}{x}(hx:L[i]? =some x)(c){u}(hu:(tQ x)[c]? =some u):W.cell? (qA g (off+i*8+c))=some u:=by
 have hc:c<8:=by have:=(uI.1 hu).1;rwa [rD] at this
 rw [Yt];exact h _ u (by rw [mi rD hx hc];exact hu)
theorem Tg(F)(n)(h7:F.fn 367)(cR:F.round=none)(hn:1<=n)(l Bs g off cap)(ao)(L)(hlen:L.length<=1000)(aG:L= []\/ao=some (qA g off))(J Jx:List Nat->World->Prop)
  (hY:∀pre x W,J pre W->pre.length<L.length->YieldAt F (n - 1) prog l (zcd L x) W fun e W'=>
   (e= .returned (.bool true)/\J (pre++ [x]) W'/\D8 g Bs W W')\/(e= .returned (.bool false)/\Jx (pre++ [x]) W'))
  (W) (bM:W.cell? (qB Bs)=some (.slice ao L.length cap)) (hc:V8 W g off L) (h0:J [] W):
  CallsIn F n prog 367 #[.func (.yield l) #[] #[],qP Bs] W fun e W'=>(∃v,e= .returned v)/\
   ((∃ys,ys=List.range L.length/\J ys W')\/(∃pre,(∃k,k<=L.length/\pre=List.range k)/\Jx pre W')):=by
 refine callsIn_of_wp func367 rfl h7 ?_ cR;simp only [ntmps367,Zl,Za,Zq,Nat.reduceAdd,Nat.reduceSub,Zv,Zw,ZD,ZA,ZF,ZE];have hw0:IntKind.i64.wrap ((L.length:Int) - 1)=(L.length:Int) - 1:=zw;gi_wp2
 gi_loopw [3] (fun i wr=>∃k:Nat,k<=L.length/\i=qI ((L.length:Int) - 1 - k)/\J (List.range k) wr/\D8 g Bs W wr)
  (fun i _=>(intOf i+1).toNat)
 case atStart=>exact ⟨0,uW _,zr,h0,D8.refl _ _ _⟩
 case round=>
  obtain ⟨k,hk,rfl,jo,co⟩:=hrel;have iR:=(uS (a:=(qB Bs)) co.2).trans bM;by_cases hlt:k<L.length
  ·have iO:=aG.resolve_left (fun e=>zL);subst iO;obtain ⟨fn,tmps,assign,body,hy,hR⟩:=hY _ k wr jo zL
   have cG:L[L.length - 1 - k]? =some (nt L k):=by
    exact km0
   have hrow:=hc.same co.1;obtain ⟨x,hx⟩:=za (nt L k);rw [<-hx] at cG;obtain ⟨i,hi⟩:=za (L.length - 1 - k);have ce:(L.length:Int) - 1 - k=(i:Int):=zj;have hilt:i<L.length:=zj;unfold zcd at hy;rw [<-hx,<-hi] at hy;rw [<-hi] at cG;have c0:wr.cell? (qA g (off+i*8))=some (qI x.1.1.1):=hrow.at cG 0 (u:=qI x.1.1.1) rfl;have c1:=hrow.at cG 1 (u:=qI x.1.1.2) rfl;have c2:=hrow.at cG 2 (u:=qI x.1.2.1) rfl;have c3:=hrow.at cG 3 (u:=qI x.1.2.2.1) rfl;have c4:=hrow.at cG 4 (u:=.string x.1.2.2.2) rfl;have c5:=hrow.at cG 5 (u:=qI x.2.1) rfl;have c6:=hrow.at cG 6 (u:=qI x.2.2.1) rfl;have c7:=hrow.at cG 7 (u:=.string x.2.2.2) rfl;rw [ce];have hw1:IntKind.i64.wrap ((i:Int) - 1)=(i:Int) - 1:=zw;have d6:(0:Int)<=(i:Int):=zj;have hib:(i:Int)<(L.length:Int):=zj
   have HK:Aside (i=L.length - 1 - k/\k<L.length/\D8 g Bs W wr):=⟨hi,hlt,co⟩
   have hR':Aside (RoundIn F (n - 1) prog l fn tmps assign body wr fun e W'=>(e= .returned (.bool true)/\J (List.range k++ [k]) W'/\D8 g Bs wr W')\/(e= .returned (.bool false)/\Jx (List.range k++ [k]) W')):=hR;clear hi ce hlt hk cG hx hR hrow co jo hY h0;gi_wp2;refine hR'.o.mono ?_;rintro e W3 (⟨rfl,hJ3,hk3⟩ | ⟨rfl,hJx3⟩)
   ·gi_wp2;go_roundw
    case rel=>exact ⟨k+1,xW,by have:=HK.o;congr 1;omega,by rw [Yq];exact hJ3,HK.o.2.2.trans hk3⟩
    case measure=>have:=HK.o;simp [intOf]
   gi_wp2;refine bodyPost_ret (results_none rfl _ _ _) rfl ?_;exact ⟨⟨_,rfl⟩,.inr ⟨_,⟨k+1,xW,(Yq).symm⟩,hJx3⟩⟩
  obtain rfl:k=L.length:=zj;gi_wp2;go_end0
  simp_all
end
section
open RowKit Maps
theorem VC(w):(zeroValue 212).run prog w= .ok (pG mS) w:=zeroValue212 w
theorem sL.looks{w}{b n}{f}(h:sL prog 3 w b n f){k}(hk:Wf k):
  (Instr.lookup 185 (.map (some b)) (qI k) true).run prog w= .ok (.tuple #[pG ((f k).getD mS),.bool (f k).isSome]) w:=
 h.F underlying3 underlying185 (VC w) hk
theorem sL.aca{w}{b n}{f}(h:sL prog 3 w b n f){k}(hk:Wf k):
  (Instr.lookup 185 (.map (some b)) (qI k) false).run prog w= .ok (pG ((f k).getD mS)) w:=
 h.ab5 underlying3 underlying185 (VC w) hk
theorem Wu(w):qC 78 #[] w fun e w'=>e= .returned (qP (w.heap.size+1))/\w'=(w.alloc (.map #[] 0)).alloc (.cells #[.map (some w.heap.size),qE] 188):=by
 have jG:= @run_makeMap prog;go_enter func78,ntmps78;exact ka7
def x8(w:qW)(b:Nat)(p:Plc):Prop:=w.heap[b]? =some (.cells #[qI p.1,qI p.2.1,.string p.2.2] 212 (0,0))
theorem x8.lt{w}{b}{p}(h:x8 w b p):b<w.heap.size:=(uK.1 h).1
theorem x8.c0{w}{b}{p}(h:x8 w b p):w.cell? (qB b)=some (qI p.1):=qM
theorem x8.c1{w}{b}{p}(h:x8 w b p):w.cell? (qA b 1)=some (qI p.2.1):=qM
theorem x8.c2{w}{b}{p}(h:x8 w b p):w.cell? (qA b 2)=some (.string p.2.2):=qM
theorem x8.fz{w}{b}{p}(h:x8 w b p)(o):w.frozen? (qA b o)=false:=by unfold x8 at h;simp [World.frozen?,h]
theorem x8.same{w w'}{b}{p}(h:x8 w b p)(e:w'.heap[b]? =w.heap[b]?):x8 w' b p:=e.trans h
theorem x8.ab6{w}{b}{p}(h:x8 w b p)(q):x8 (((w.setCell (qB b) (qI q.1)).setCell (qA b 1) (qI q.2.1)).setCell (qA b 2) (.string q.2.2)) b q:=by
 have h0:=heap_setCell_same w b 0 _ _ (qI q.1) h;have h1:=heap_setCell_same _ b 1 _ _ (qI q.2.1) h0;exact heap_setCell_same _ b 2 _ _ (.string q.2.2) h1
theorem x8.aaL{w w'}{B b}(q:Plc)(h:Below B w w')(hb:B<=b):Below B w (((w'.setCell (qB b) (qI q.1)).setCell (qA b 1) (qI q.2.1)).setCell (qA b 2) (.string q.2.2)):=
 ((h.setCell (p:=(qB b)) hb _).setCell (p:=(qA b 1)) hb _).setCell (p:=(qA b 2)) hb _
theorem sL.m8{w w'}{b n}{f}(h:sL prog 3 w b n f){B}(hb:Below B w w')(hB:b<B):sL prog 3 w' b n f:=h.same (hb.block b hB)
theorem tj(w)(bt bm n)(f)(l8 of)(z)(hz:z=true↔Ins f l8 of)(ht:w.cell? (qB bt)=some (.map (some bm)))(hm:sL prog 3 w bm n f)(G:wg f)(hk:Wf l8):
  qC 143 #[qP bt,qI l8,qI of] w (qR (.bool z) w):=by
 have hbt:bt<w.heap.size:=block_lt_of_cell ht;obtain ⟨d,hd⟩:=G.ab8;have hl:=hm.looks hk;unfold pG at hl;go_enter func143,ntmps143;go_wp2;obtain ⟨w0,hw0⟩:=za (w.alloc (.cells #[qI ((f l8).getD mS).1,qI ((f l8).getD mS).2.1,.string ((f l8).getD mS).2.2] 212))
 have i8:x8 w0 w.heap.size ((f l8).getD mS):=by rw [hw0];exact heap_alloc_new w _
 have hb0:qL w w0:=by rw [hw0];exact zh w _
 rw [<-hw0];clear hw0 hl;go_loopg [7,8] (d l8+1) (fun kx s7 s8 wr=>∃(b7:Nat) (cur:Int),s7=qP b7/\s8= .bool (f cur).isSome/\w.heap.size<=b7/\x8 wr b7 ((f cur).getD mS)/\Wf cur/\(Ins f cur of↔Ins f l8 of)/\qL w wr/\(∀p,f cur=some p->d cur<kx))
 case atStart=>exact ⟨w.heap.size,l8,rfl,rfl,uL _,i8,hk,Iff.rfl,hb0,fun _ _=>Nat.lt_succ_self _⟩
 case round=>
  obtain ⟨b7,cur,rfl,rfl,hb7,hp,hkc,hi,hb,aY⟩:=hrel;clear i8 hb0 w0;have fP:=(hb.cell (p:=(qB bt)) hbt).trans ht;have hm1:=hm.m8 hb hm.lt
  cases hf:f cur with
  | none=>
   have hno:z=false:=by
    cases z with
    | false=>rfl
    | true=>exact absurd (hi.2 (hz.1 rfl)) (BT hf)
   subst hno;rw [hf] at hp;simp only [Yy];go_wp2;go_ret;exact ⟨rfl,hb⟩
  | some p=>
   rw [hf] at hp;simp only [Yz];have hc1:wr.cell? (qA b7 1)=some (qI p.2.1):=hp.c1;by_cases he:p.2.1=of
   ·have hyes:=hz.2 (hi.1 ((Em hf).2 (.inl he)));subst hyes;have q0:=decide_eq_true he;go_wp2;go_ret;exact ⟨rfl,hb⟩
   have q0:=decide_eq_false he;have cE:=(tJ (G.Y8 cur p hf)).2;have fj:=hp.c0;have hc2:=hp.c2;go_wp2;obtain ⟨w1,hw1⟩:=za (wr.alloc (.cells #[qI p.1,qI p.2.1,.string p.2.2] 212))
   have bQ:x8 w1 wr.heap.size p:=by rw [hw1];exact heap_alloc_new wr _
   have hb1:qL w w1:=by rw [hw1];exact hb.alloc hb.size _
   have aI:=hb.size;rw [<-hw1];obtain ⟨b8,hb8⟩:=za wr.heap.size
   rw [<-hb8] at bQ aI |-
   have kH:=(hb1.cell (p:=(qB bt)) hbt).trans ht;have bR:=hm.m8 hb1 hm.lt;have iy:=bR.looks cE;have hl3:=(show sL prog 3 w1.drew bm n f from bR).looks cE;unfold pG at iy hl3;have d0:=bQ.c0;have d1:=bQ.c1;have d2:=bQ.c2;have z0:=bQ.fz 0;have z1:=bQ.fz 1;have z2:=bQ.fz 2
   have F:Aside (x8 w1 b8 p/\qL w w1/\w.heap.size<=b8/\Wf p.2.1):=⟨bQ,hb1,aI,cE⟩
   clear hp fj hc1 hc2 bQ hb1 bR hm1 fP hw1 hb8 aI cE;go_region;go_wp2;go_roundg (d cur)
   case measure=>exact aY p hf
   case rel=>exact ⟨b8,p.2.1,rfl,rfl,F.o.2.2.1,F.o.1.ab6 _,F.o.2.2.2,(by rw [<-hi,Em hf];exact ⟨.inr,fun h=>h.resolve_left he⟩),(x8.aaL _ F.o.2.1 F.o.2.2.1).drew,fun _ _=>hd cur p hf⟩
end
section
open RowKit
theorem oJ{w w'}{b o}{v}(hb:qL w w')(h:w.cell? (qA b o)=some v):w'.cell? (qA b o)=some v:=by
 exact kg7
theorem mD{w w':qW}{l9 n}{e}{k}{v}{xs}(h:w.ownsRow l9 e k v n xs)(hs:∀g,v.ownBlock=some g->w'.heap[g]? =w.heap[g]?):w'.ownsRow l9 e k v n xs:=by
 refine ⟨h.1,?_⟩
 rcases h.2 with h0 | ⟨g,cap,cur,rfl,h1,hg,h2⟩
 ·exact .inl h0
 exact kl1
theorem JF{w:qW}{l9 base' n}{e}{k}{v}{xs}(h:w.ownsRow l9 e k v n xs)(hb:base'<=l9):w.ownsRow base' e k v n xs:=by
 refine ⟨h.1,h.2.imp (fun e=>e) ?_⟩;rintro ⟨g,cap,cur,h1,h2,h3⟩;exact ⟨g,cap,cur,h1,zj,h3⟩
theorem mC{w:qW}{l9 n k}{v}{e}{xs}(h:w.ownsRow l9 e k v n xs):∃ao cap,v= .slice ao n cap:=by
 rcases h.2 with ⟨h1,h2⟩ | ⟨g,cap,cur,rfl,_⟩
 ·subst h2;exact ⟨_,_,h1⟩
 simp_all
section
variable {α:Type} {enc:α→List Value} {k:Nat}
def N9(enc:α->List Value)(w:qW)(ao:qO)(zs:List α):Prop:=zs= []\/∃blk off,ao=some (qA blk off)/\∀j u,(mP enc zs)[j]? =some u->w.cell? (qA blk (off+j))=some u
theorem N9.kept{w w'}{ao}{zs}(h:N9 enc w ao zs)(hk:∀g o,ao=some (qA g o)->w'.heap[g]? =w.heap[g]?):N9 enc w' ao zs:=by
 rcases h with h | ⟨g,o,h1,h2⟩
 ·exact .inl h
 exact .inr ⟨g,o,h1,fun j u hj=>by grind [uS]⟩
theorem N9.e(hlen:∀x,(enc x).length=k){w}{ao}{zs}(h:N9 enc w ao zs){i}{x}(hi:zs[i]? =some x):∃blk off,ao=some (qA blk off)/\∀c u,(enc x)[c]? =some u->w.cell? (qA blk (off+i*k+c))=some u:=by
 rcases h with h | ⟨b,o,h1,h2⟩
 ·subst h;simp at hi
 refine ⟨b,o,h1,fun c u hc=> ?_⟩
 have bA:c<k:=by have:=(uI.1 hc).1;rwa [hlen] at this
 simp_all [Yt,mi]
theorem zaY(hlen:∀x,(enc x).length=k){w}{l9}{T}{ao}{cap}{L}(h:w.ownsRow l9 T k (.slice ao L.length cap) L.length (mP enc L)):N9 enc w ao L:=by
 have h':=h
 rcases h.2 with ⟨h1,h2⟩ | ⟨g,cap',cur,hv,_⟩
 ·exact .inl (Zg.1 h2)
 cases hv
 refine .inr ⟨g,0,rfl,fun j u hj=> ?_⟩;have hl:=(uI.1 hj).1;rw [mu hlen] at hl;rw [Zc,h'.cellAt j hl,hj]
theorem pV{P}{S T}{z}{bytes}(hS:P.underlying S=some (.slice T))(bX:(P.info? T).map (fun i=>(i.zero,i.size,i.bytes))=some (some z,k,bytes))(hb1:bytes<=1000)(jc:0<k)(hzc:z.cells.size=k)
  (hlen:∀x,(enc x).length=k) (eJ:∀x,∀v∈enc x,v.oneCell'=true)
  {w} {l9 n} {v} {xs} (ho:w.ownsRow l9 T k v n xs) (hn:n<=2000) (aj:l9<=w.heap.size) (ap) (c) (ys) (hy:ys.length<=2000) (ll:N9 enc w ap ys) (hc:ap=none->c=0) (ty):
  ∃v' w',(Builtin.append_ #[S,S] ty #[v,.slice ap ys.length c]).run P w= .ok v' w'/\w'.ownsRow l9 T k v' (n+ys.length) (xs++mP enc ys)/\w.grownBy w' v.ownBlock:=by
 obtain ⟨i0,hi,aD,aw,aH⟩:=info_parts bX
 cases ap with
 | none=>
  have h0:ys= []:=by
   rcases ll with h | ⟨_,_,h,_⟩
   ·exact h
   cases h
  subst h0;rw [hc rfl];refine ⟨v,w,run_append_owned_none w l9 _ ty _ i0 k hS hi v n xs ho,by simpa [mP] using ho,⟨rfl,rfl,rfl,uL _,fun _ _ _=>rfl⟩⟩
 | some a=>
  have hl:=mu hlen ys
  obtain ⟨v',w',h1,h2,h3,-⟩:=run_append_own (P:=P) w l9 S ty T i0 _ k bytes hS hi aD aw aH hzc zj v n xs ho a ys.length c (mP enc ys) hl (fun j u hj=>by
   rcases ll with h | ⟨b,o,h,hcell⟩
   ·subst h;simp [mP] at hj
   ·cases h
    rw [Addr.add_lit]
    exact hcell j u hj) (sC eJ ys) zB (by have:=Nat.mul_le_mul (show n+ys.length<=4000 by omega) hb1;omega) aj
  grind
end
end