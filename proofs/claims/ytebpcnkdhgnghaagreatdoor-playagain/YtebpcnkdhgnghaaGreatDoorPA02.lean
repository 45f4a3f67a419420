import Derived.Test.YtebpcnkdhgnghaaGreatDoorMacB
import Derived.Sort.LotA
import Derived.Test.YtebpcnkdhgnghaaGreatDoorProg
import Derived.WalkSmall
import Derived.WalkSpells
set_option linter.unusedSimpArgs false
set_option linter.unusedVariables false
set_option maxHeartbeats 64000000
namespace Go.Proofs.YtebpcnkdhgnghaaGreatDoor
open Go.Proofs.Tryz
variable {D:DataW Unit} {z:DataW Unit×List MemPlace} {b k r x:Int} {a s:Int×Int} {vs xs:List Value} {B g i n:Nat} {E:TypeId} {v:Value} {w w':World}
section
abbrev Ltr:=Int×Nat×Bool
def laid (x:Ltr):List Ltr->List Ltr
 | []=>[x]
 | h::t=>if x.1<h.1 then h::laid x t else x::h::t
def rN (b:Int) (x:Ltr):List Ltr->List Ltr
 | []=>[]
 | h::t=>if h.1=b then h::laid x t else h::rN b x t
def put (b:Int) (x:Ltr) (L:List Ltr):List Ltr:=if b=0 then laid x L else rN b x L
theorem af {x h:Ltr} (k:x.1<h.1) (t:List Ltr):laid x (h::t)=h::laid x t:=by simp [laid,k]
theorem bC {x h:Ltr} (k:¬x.1<h.1) (t:List Ltr):laid x (h::t)=x::h::t:=by simp [laid,k]
theorem bq {x h:Ltr} (k:h.1=b) (t:List Ltr):rN b x (h::t)=h::laid x t:=by simp [rN,k]
theorem cP {x h:Ltr} (k:h.1≠b) (t:List Ltr):rN b x (h::t)=h::rN b x t:=by simp [rN,k]
theorem iJ (x y:Ltr) (h:x.1≠y.1):∀L,laid y (laid x L)=laid x (laid y L)
 | []=>by
  by_cases k:x.1<y.1
  ·rw [show laid x []= [x] from rfl,show laid y []= [y] from rfl,af k,bC zj];rfl
  rw [show laid x []= [x] from rfl,show laid y []= [y] from rfl,bC k,af zj];rfl
 | g::t=>by
  by_cases kx:x.1<g.1
  ·by_cases ky:y.1<g.1
   ·rw [af kx,af ky,af ky,af kx,iJ x y h t]
   rw [af kx,bC ky,bC ky,af zj,af kx]
  by_cases ky:y.1<g.1
  ·rw [bC kx,af ky,af zj,af ky,bC kx]
  rw [bC kx,bC ky]
  by_cases k:x.1<y.1
  ·rw [bC zj,af k,bC kx]
  rw [af zj,bC k,bC ky]
theorem fP (x y:Ltr) (b:Int) (h:x.1≠y.1) (hb:b≠x.1):∀L,rN b y (laid x L)=laid x (rN b y L)
 | []=>by
  rw [show laid x []= [x] from rfl,cP (fun e=>hb e.symm)];rfl
 | g::t=>by
  by_cases kx:x.1<g.1
  ·rw [af kx]
   by_cases kb:g.1=b
   ·rw [bq kb,bq kb,af kx,iJ x y h t]
   rw [cP kb,cP kb,af kx,fP x y b h hb t]
  rw [bC kx,cP (fun e=>hb e.symm)]
  by_cases kb:g.1=b
  ·rw [bq kb,bC kx]
  rw [cP kb,bC kx]
theorem rk (x y:Ltr) (a b:Int) (h:x.1≠y.1) (ha:a≠y.1) (hb:b≠x.1):∀L,rN b y (rN a x L)=rN a x (rN b y L)
 | []=>rfl
 | g::t=>by
  by_cases ka:g.1=a
  ·rw [bq ka]
   by_cases kb:g.1=b
   ·rw [bq kb,bq kb,bq ka,iJ x y h t]
   rw [cP kb,cP kb,bq ka,fP x y b h hb t]
  rw [cP ka]
  by_cases kb:g.1=b
  ·rw [bq kb,bq kb,cP ka,fP y x a (fun e=>h e.symm) ha t]
  rw [cP kb,cP kb,cP ka,rk x y a b h ha hb t]
theorem JS (x y:Ltr) (a b:Int) (h:x.1≠y.1) (ha:a≠y.1) (hb:b≠x.1) (L:List Ltr):put b y (put a x L)=put a x (put b y L):=by
 unfold put
 by_cases h0:a=0
 ·rw [if_pos h0,if_pos h0]
  by_cases h1:b=0
  ·rw [if_pos h1,if_pos h1,iJ x y h]
  rw [if_neg h1,if_neg h1,fP x y b h hb]
 rw [if_neg h0,if_neg h0]
 by_cases h1:b=0
 ·rw [if_pos h1,if_pos h1,fP y x a (fun e=>h e.symm) ha]
 rw [if_neg h1,if_neg h1,rk x y a b h ha hb]
def cH (s:List (Int×Ltr)) (L:List Ltr):List Ltr:=s.foldl (fun L m=>put m.1 m.2 L) L
theorem dI (s r:List (Int×Ltr)) (L:List Ltr):cH (s++r) L=cH r (cH s L):=by simp [cH]
theorem fi (m:Int×Ltr) (L:List Ltr):cH [m] L=put m.1 m.2 L:=rfl
theorem lh (m:Int×Ltr):∀(r:List (Int×Ltr)) (L:List Ltr),(∀y∈r,m.2.1≠y.2.1/\m.1≠y.2.1/\y.1≠m.2.1)->cH r (put m.1 m.2 L)=put m.1 m.2 (cH r L)
 | [],_,_=>rfl
 | y::r,L,h=>by
  obtain ⟨h1,h2,h3⟩:=h y zq
  show cH r (put y.1 y.2 (put m.1 m.2 L))=put m.1 m.2 (cH r (put y.1 y.2 L))
  rw [JS m.2 y.2 m.1 y.1 h1 h2 h3]
  exact lh m r _ (fun z hz=>h z jd)
def oe (s:List (Int×Ltr)):Prop:=(s.map (·.2.1)).Nodup/\(∀m∈s,m.2.1≠0)/\∀u m v,s=u++m::v->m.1=0\/∃y∈u,y.2.1=m.1
theorem nL {s:List (Int×Ltr)} {m:Int×Ltr} (h:oe (s++ [m])):oe s:=by
 obtain ⟨h1,h2,h3⟩:=h
 rw [vz] at h1
 refine ⟨(vM.1 h1).1,fun x hx=>h2 x (by simp [hx]),fun u x v e=>h3 u x (v++ [m]) (by rw [e];simp)⟩
theorem Ag {s:List (Int×Ltr)} {m:Int×Ltr} (h:oe (s++ [m])):∀y∈s,y.2.1≠m.2.1/\y.1≠m.2.1:=by
 obtain ⟨h1,h2,h3⟩:=h
 rw [vz] at h1
 have hd:∀y∈s,y.2.1≠m.2.1:=fun y hy e=>(vM.1 h1).2.2 _ (vp.2 ⟨y,hy,rfl⟩) _ zq e
 intro y hy
 refine ⟨hd y hy,fun e=> ?_⟩
 obtain ⟨u,v,rfl⟩:=List.append_of_mem hy
 rcases h3 u y (v++ [m]) zq with h0 | ⟨z,hz,he⟩
 ·exact h2 m zq (by rw [<-e,h0])
 exact hd z jd (by rw [he,e])
theorem Bc {u v:List (Int×Ltr)} {m:Int×Ltr} (h:oe (u++m::v)) (hm:∀y∈v,y.1≠m.2.1):oe (u++v):=by
 obtain ⟨h1,h2,h3⟩:=h
 have hsub:(u++v).Sublist (u++m::v):=List.Sublist.append_left (List.sublist_cons_self _ _) u
 refine ⟨h1.sublist (hsub.map _),fun x hx=>h2 x (hsub.subset hx),fun a x b e=> ?_⟩
 rcases List.append_eq_append_iff.1 e with ⟨c,rfl,hc⟩ | ⟨c,rfl,hc⟩
 ·rcases h3 (u++m::c) x b (by rw [hc];simp) with h0 | ⟨z,hz,he⟩
  ·exact .inl h0
  right
  rcases jO.1 hz with hz | hz
  ·exact ⟨z,jd,he⟩
  rcases jQ.1 hz with rfl | hz
  ·exact absurd he.symm (hm x (by rw [hc];simp))
  exact ⟨z,jd,he⟩
 cases c with
 | nil=>
  simp only [vZ,ua] at hc h3 |-
  rcases h3 (a++ [m]) x b (by rw [<-hc];simp) with h0 | ⟨z,hz,he⟩
  ·exact .inl h0
  right
  rcases jO.1 hz with hz | hz
  ·exact ⟨z,hz,he⟩
  rw [jS] at hz
  subst hz
  exact absurd he.symm (hm x (by rw [<-hc];simp))
 | cons y c=>
  injection hc with e1 e2
  subst e1
  exact h3 a x (c++m::v) zq
theorem ff {α:Type} :∀(l:List α),l= []\/∃s m,l=s++ [m]
 | []=>.inl rfl
 | x::t=>by
  rcases ff t with rfl | ⟨s,m,rfl⟩
  ·exact .inr ⟨[],x,rfl⟩
  exact .inr ⟨x::s,m,rfl⟩
theorem gw:∀(n:Nat) (s r:List (Int×Ltr)),s.length=n->s.Perm r->oe s->oe r->cH s []=cH r []
 | 0,s,r,hn,hp,_,_=>by
  obtain rfl:=ve.1 hn
  rw [hp.symm.eq_nil]
 | n+1,s,r,hn,hp,hs,hr=>by
  rcases ff s with rfl | ⟨s',m,rfl⟩
  ·simp at hn
  obtain ⟨u,v,rfl⟩:=List.append_of_mem (hp.mem_iff.1 (show m∈s'++ [m] by simp))
  have hl:=Ag hs
  have hp':s'.Perm (u++v):=by
   have h1:(m::s').Perm (m::(u++v)):=((List.perm_append_singleton m s').symm.trans hp).trans List.perm_middle
   exact h1.cons_inv
  have hv:∀y∈v,y.2.1≠m.2.1/\y.1≠m.2.1:=fun y hy=>hl y (hp'.mem_iff.2 xE)
  have hmv:∀y∈v,m.1≠y.2.1:=by
   intro y hy e
   obtain ⟨h1,h2,h3⟩:=hr
   rcases h3 u m v rfl with h0 | ⟨z,hz,he⟩
   ·exact h2 y xE (by rw [<-e,h0])
   rw [vz,vJ] at h1
   exact (vM.1 h1).2.2 _ (vp.2 ⟨z,hz,rfl⟩) _ (vf _ (vp.2 ⟨y,hy,rfl⟩)) (by rw [he,e])
  have hr':=Bc hr (fun y hy=>(hv y hy).2)
  have ih:=gw n s' (u++v) yV hp' (nL hs) hr'
  rw [dI,fi,ih,show u++m::v=u++([m]++v) by simp,dI,dI,dI,fi]
  exact (lh m v _ (fun y hy=>⟨fun e=>(hv y hy).1 e.symm,hmv y hy,(hv y hy).2⟩)).symm
end
section
def cq (x:Int):List Ltr->Nat
 | []=>0
 | h::t=>if x<h.1 then cq x t+1 else 0
def cj (b:Int):List Ltr->Option Nat
 | []=>none
 | h::t=>if h.1=b then some 0 else (cj b t).map (· +1)
theorem ke (x:Int):∀L,cq x L<=L.length
 | []=>jL _
 | h::t=>by
  unfold cq
  split
  ·have:=ke x t;simp;omega
  omega
theorem oV {x:Int} :∀ {L:List Ltr} {n:Nat},n<=L.length->(∀i l,i<n->L[i]? =some l->x<l.1)->(∀l,L[n]? =some l->¬x<l.1)->cq x L=n
 | [],n,hn,_,_=>by simp at hn;simp [cq,hn]
 | g::t,0,_,_,h2=>by
  unfold cq
  rw [if_neg (h2 g rfl)]
 | g::t,n+1,hn,h1,h2=>by
  unfold cq
  rw [if_pos (h1 0 g zj rfl),oV (n:=n) yV (fun i l hi e=>h1 (i+1) l zj ym) (fun l e=>h2 l ym)]
theorem sJ (x:Ltr):∀L,laid x L=L.take (cq x.1 L)++x::L.drop (cq x.1 L)
 | []=>rfl
 | h::t=>by
  unfold cq
  by_cases k:x.1<h.1
  ·rw [af k,if_pos k,sJ x t];rfl
  rw [bC k,if_neg k];rfl
theorem cn {b:Int} :∀ {L:List Ltr} {i:Nat},cj b L=some i->∃l,L[i]? =some l/\l.1=b
 | [],i,h=>by simp [cj] at h
 | g::t,i,h=>by
  unfold cj at h
  split at h
  ·cases h;exact ⟨g,rfl,qj⟩
  cases hf:cj b t with
  | none=>rw [hf] at h;cases h
  | some j=>
   rw [hf] at h
   cases h
   obtain ⟨l,h1,h2⟩:=cn hf
   exact ⟨l,xx,h2⟩
theorem ik {b:Int} :∀ {L:List Ltr},cj b L=none->∀l∈L,l.1≠b
 | [],_,l,hl=>by simp at hl
 | g::t,h,l,hl=>by
  unfold cj at h
  split at h
  ·cases h
  have hf:cj b t=none:=qy
  rcases jQ.1 hl with rfl | hl
  ·assumption
  exact ik hf l hl
theorem fT {L:List Ltr} (h:b∈L.map (·.1)):∃i,cj b L=some i:=by
 cases hf:cj b L with
 | some i=>exact ⟨i,rfl⟩
 | none=>
  obtain ⟨l,hl,e⟩:=vp.1 h
  exact absurd e (ik hf l hl)
theorem wo {b:Int} :∀ {L:List Ltr} {i:Nat} {l:Ltr},L[i]? =some l->l.1=b->(∀j g,j<i->L[j]? =some g->g.1≠b)->cj b L=some i
 | [],i,l,e,_,_=>by simp at e
 | g::t,0,l,e,h,_=>by
  cases e
  unfold cj
  rw [if_pos h]
 | g::t,i+1,l,e,h,hn=>by
  unfold cj
  rw [if_neg (hn 0 g zj rfl),wo (L:=t) (i:=i) ym h (fun j g' hj e'=>hn (j+1) g' zj (by simpa using e'))]
  rfl
theorem Eb (b:Int) (x:Ltr):∀(L:List Ltr) (i:Nat),cj b L=some i->rN b x L=L.take (i+1+cq x.1 (L.drop (i+1)))++x::L.drop (i+1+cq x.1 (L.drop (i+1)))
 | [],i,h=>by simp [cj] at h
 | g::t,i,h=>by
  unfold cj at h
  by_cases k:g.1=b
  ·rw [if_pos k] at h
   cases h
   have e:0+1+cq x.1 ((g::t).drop (0+1))=cq x.1 t+1:=by show 0+1+cq x.1 t=_;omega
   rw [bq k,sJ x t,e]
   rfl
  rw [if_neg k] at h
  cases hf:cj b t with
  | none=>rw [hf] at h;cases h
  | some j=>
   rw [hf] at h
   cases h
   have e:j+1+1+cq x.1 ((g::t).drop (j+1+1))=j+1+cq x.1 (t.drop (j+1))+1:=by show j+1+1+cq x.1 (t.drop (j+1))=_;omega
   rw [cP k,Eb b x t j hf,e]
   rfl
def gO (b id:Int) (L:List Ltr):Nat:=if b=0 then cq id L else match cj b L with
 | none=>0
 | some i=>i+1+cq id (L.drop (i+1))
theorem Fm {x:Ltr} {L:List Ltr} (h:b=0\/b∈L.map (·.1)):gO b x.1 L<=L.length/\put b x L=L.take (gO b x.1 L)++x::L.drop (gO b x.1 L):=by
 unfold put gO
 by_cases h0:b=0
 ·rw [if_pos h0,if_pos h0]
  exact ⟨ke _ _,sJ x L⟩
 rw [if_neg h0,if_neg h0]
 obtain ⟨i,hi⟩:=fT (h.resolve_left h0)
 rw [hi]
 obtain ⟨l,hl,_⟩:=cn hi
 have h1:=(jI.1 hl).1
 have h2:=ke x.1 (L.drop (i+1))
 rw [vx] at h2
 exact ⟨zO,Eb b x L i hi⟩
theorem km {x:Ltr} {L:List Ltr} (h:b=0\/b∈L.map (·.1)):(put b x L).Perm (x::L):=by
 rw [(Fm h).2]
 refine List.perm_middle.trans ?_
 rw [vA]
theorem KO {x:Ltr} {L:List Ltr} (h:b=0\/b∈L.map (·.1)):(put b x L).length=L.length+1:=by rw [(km h).length_eq];rfl
theorem Fi {x:Ltr} {L:List Ltr} (h:b=0\/b∈L.map (·.1)):((put b x L).map (·.1)).Perm (x.1::L.map (·.1)):=(km h).map _
def gone (id:Int) (L:List Ltr):List Ltr:=L.map fun l=>if l.1=id then (l.1,l.2.1,true) else l
def bN (L:List Ltr):List Ltr:=L.filter fun l=> !l.2.2
end
section
def MV (p:Ltr->Bool) (zs:List Ltr) (r:Int):Prop:=
 (r= -1/\∀l∈zs,p l=false)\/∃(i:Nat) (l:Ltr),r=(i:Int)/\zs[i]? =some l/\p l=true/\∀j g,j<i->zs[j]? =some g->p g=false
def mo (b:Int) (L:List Ltr):Int:=match cj b L with
 | none=> -1
 | some i=>(i:Int)
theorem Ij {L:List Ltr} (h:MV (fun l=>decide (l.1=b)) L r):r=mo b L:=by
 unfold mo
 rcases h with ⟨rfl,h⟩ | ⟨i,l,rfl,hl,hp,hn⟩
 ·cases hf:cj b L with
  | none=>rfl
  | some i=>
   obtain ⟨l,h1,h2⟩:=cn hf
   have:=h l (jT h1)
   simp [h2] at this
 rw [wo hl (by simpa using hp) (fun j g hj hg=>by simpa using hn j g hj hg)]
theorem fx {L:List Ltr} (h:b∉L.map (·.1)):mo b L= -1:=by
 unfold mo
 cases hf:cj b L with
 | none=>rfl
 | some i=>
  obtain ⟨l,h1,h2⟩:=cn hf
  exact absurd (vp.2 ⟨l,jT h1,h2⟩) h
theorem rW {L:List Ltr} (h:b∈L.map (·.1)):∃i:Nat,mo b L=(i:Int)/\cj b L=some i/\i<L.length:=by
 obtain ⟨i,hi⟩:=fT h
 obtain ⟨l,h1,_⟩:=cn hi
 exact ⟨i,by unfold mo;rw [hi],hi,(jI.1 h1).1⟩
theorem LQ {id:Int} {L:List Ltr} (hn:id∉L.map (·.1)) (h:MV (fun l=>decide (l.1<id)) L r):(r= -1/\cq id L=L.length)\/r=(cq id L:Int):=by
 have hne:∀l∈L,l.1≠id:=fun l hl e=>hn (vp.2 ⟨l,hl,e⟩)
 rcases h with ⟨rfl,h⟩ | ⟨i,l,rfl,hl,hp,hq⟩
 ·refine .inl ⟨rfl,oV zg (fun i l _ e=> ?_) (fun l e=>by simp at e)⟩
  have h1:=h l (jT e)
  have h2:=hne l (jT e)
  simp at h1
  omega
 right
 rw [oV (n:=i) (uQ (jI.1 hl).1) (fun j g hj e=> ?_) (fun g e=> ?_)]
 ·have h1:=hq j g hj e
  have h2:=hne g (jT e)
  simp at h1
  omega
 rw [hl] at e
 cases e
 simp at hp
 omega
def bare (l:Ltr):Ltr:=if l.2.2 then (l.1,0,true) else l
theorem Kl {L:List Ltr} {l:Ltr} (h:L[i]? =some l) (c:Nat) (g:Bool):(L.set i (l.1,c,g)).map (·.1)=L.map (·.1):=by
 rw [List.map_set]
 apply List.ext_getElem?
 intro j
 by_cases e:j=i
 ·subst e
  have hl:=(jI.1 h).1
  rw [uZ yJ]
  simp [h]
 rw [List.getElem?_set_ne zj]
theorem Fa {x:Ltr} {L:List Ltr} (h:b=0\/b∈L.map (·.1)) (hn:(L.map (·.1)).Nodup) (hx:x.1∉L.map (·.1)):((put b x L).map (·.1)).Nodup:=by
 rw [(Fi h).nodup_iff]
 exact List.nodup_cons.2 ⟨hx,hn⟩
end
section
abbrev Plc:=Int×Int×ByteArray
abbrev Sta:=Int->Option Plc
abbrev Mov:=(Int×Int)×Plc
def cZ:Plc:=(0,0,⟨#[]⟩)
def pU:Sta:=fun _=>none
def Jl (f:Sta):Nat->Int->Int->Bool
 | 0,_,_=>false
 | n+1,node,of=>match f node with
  | none=>false
  | some p=>decide (p.2.1=of) ||Jl f n p.2.1 of
def Ins (f:Sta) (node of:Int):Prop:=∃n,Jl f n node of=true
theorem Ec {f:Sta} {node:Int} (h:f node=none) (n:Nat) (of:Int):Jl f n node of=false:=by
 cases n<;>simp [Jl,h]
theorem my {f:Sta} {node:Int} {p:Plc} (h:f node=some p) (n:Nat) (of:Int):Jl f (n+1) node of=(decide (p.2.1=of) ||Jl f n p.2.1 of):=by
 simp [Jl,h]
theorem AK {f:Sta} {node of:Int} (h:f node=none):¬Ins f node of:=by
 rintro ⟨n,hn⟩
 rw [Ec h] at hn
 cases hn
theorem oC {f:Sta} {node of:Int} {p:Plc} (h:f node=some p):Ins f node of↔p.2.1=of\/Ins f p.2.1 of:=by
 constructor
 ·rintro ⟨n,hn⟩
  cases n with
  | zero=>simp [Jl] at hn
  | succ n=>
   rw [my h,Bool.or_eq_true] at hn
   exact hn.imp zq (fun e=>⟨n,e⟩)
 rintro (e | ⟨n,hn⟩)
 ·exact ⟨1,by rw [my h];simp [e]⟩
 exact ⟨n+1,by rw [my h,hn];simp⟩
def Nw (f:Sta) (d:Int->Nat):Prop:=∀k p,f k=some p->d p.2.1<d k
theorem NA {f:Sta} {y:Int} {p:Plc} (h:f x=some p) (hy:p.2.1=y\/Ins f p.2.1 y):Ins f x y:=(oC h).2 hy
def upd (f:Sta) (k:Int) (v:Option Plc):Sta:=fun x=>if x=k then v else f x
theorem fe (f:Sta) (k:Int) (v:Option Plc):upd f k v k=v:=by simp [upd]
theorem dx {f:Sta} {v:Option Plc} (h:x≠k):upd f k v x=f x:=by simp [upd,h]
structure FineP (p:Plc):Prop where
 ne:p.1≠0
 lo:0<=p.1
 hi:p.1<2^62
 lo':0<=p.2.1
 hi':p.2.1<2^62
 sz:p.2.2.size<=60
theorem FineP.ne_zero {p:Plc} (h:FineP p):p≠cZ:=fun e=>h.ne jH
structure ko (f:Sta):Prop where
 rank:∃d,Nw f d
 key:∀k p,f k=some p->p.1=k
 fine:∀k p,f k=some p->FineP p
theorem MS:ko pU:=⟨⟨fun _=>0,fun k p h=>xr⟩,fun k p h=>xr,fun k p h=>xr⟩
def Cx (f:Sta) (p:Plc):Prop:=p.1=p.2.1\/Ins f p.2.1 p.1
def step [∀(f:Sta) (p:Plc),Decidable (Cx f p)] (f:Sta) (m:Mov):Sta:=if Cx f m.2 then f else upd f m.2.1 (some m.2)
open scoped Classical
theorem eG {f:Sta} {m:Mov} (h:Cx f m.2):step f m=f:=by unfold step;rw [if_pos h]
theorem eQ {f:Sta} {m:Mov} (h:¬Cx f m.2):step f m=upd f m.2.1 (some m.2):=by unfold step;rw [if_neg h]
theorem CX {f:Sta} {m:Mov} (h:x≠m.2.1):step f m x=f x:=by
 by_cases hi:Cx f m.2
 ·rw [eG hi]
 rw [eQ hi,dx h]
theorem Et {f:Sta} {m:Mov} (G:ko f) (hm:FineP m.2):ko (step f m):=by
 by_cases hi:Cx f m.2
 ·rw [eG hi];exact G
 rw [eQ hi]
 obtain ⟨s,c,q,nm⟩:=m
 dsimp only at hi hm |-
 have hcq:c≠q:=fun e=>hi (.inl e)
 have hqc:¬Ins f q c:=fun e=>hi (.inr e)
 refine ⟨?_,fun k p h=> ?_,fun k p h=> ?_⟩
 ·obtain ⟨d,hd⟩:=G.rank
  classical
  refine ⟨fun x=>if x=c\/Ins f x c then d x+d q+1 else d x,fun k p h=> ?_⟩
  by_cases hk:k=c
  ·subst hk
   rw [fe] at h
   cases h
   dsimp only
   rw [if_neg (fun e=>e.elim (fun e=>hcq e.symm) hqc),if_pos (.inl rfl)]
   omega
  rw [dx hk] at h
  have h1:=hd k p h
  dsimp only
  by_cases hp:p.2.1=c\/Ins f p.2.1 c
  ·rw [if_pos hp,if_pos (.inr (NA h hp))]
   omega
  rw [if_neg hp]
  split<;>omega
 ·by_cases hk:k=c
  ·subst hk;rw [fe] at h;cases h;rfl
  rw [dx hk] at h;exact G.key k p h
 by_cases hk:k=c
 ·subst hk;rw [fe] at h;cases h;exact hm
 rw [dx hk] at h;exact G.fine k p h
def Jp (f:Sta) (node:Int) (fr:Plc):Sta:=upd f node (if fr=cZ then none else some fr)
theorem FM {f:Sta} {m:Mov} (G:ko f):Jp (step f m) m.2.1 ((f m.2.1).getD cZ)=f:=by
 funext x
 unfold Jp
 by_cases hx:x=m.2.1
 ·subst hx
  rw [fe]
  cases h:f m.2.1 with
  | none=>simp
  | some p=>
   rw [uX,if_neg (G.fine _ p h).ne_zero]
 rw [dx hx,CX hx]
def CZ [∀(f:Sta) (p:Plc),Decidable (Cx f p)] (f:Sta) (ms:List Mov):Sta:=ms.foldl step f
theorem BW (f:Sta) (ms:List Mov) (m:Mov):CZ f (ms++ [m])=step (CZ f ms) m:=by simp [CZ]
theorem pe:∀(ms:List Mov) (f:Sta),ko f->(∀m∈ms,FineP m.2)->ko (CZ f ms)
 | [],_,G,_=>G
 | m::r,f,G,h=>pe r (step f m) (Et G (h m zq)) (fun x hx=>h x (by simp [hx]))
def aH [∀(f:Sta) (p:Plc),Decidable (Cx f p)] (ms:List Mov):Sta:=CZ pU ms
theorem lw {ms:List Mov} (h:∀m∈ms,FineP m.2):ko (aH ms):=pe ms _ MS h
theorem Ds (ms:List Mov) (m:Mov):aH (ms++ [m])=step (aH ms) m:=BW _ _ _
theorem rV {ms:List Mov} {m:Mov} (h:ms[i]? =some m):aH (ms.take (i+1))=step (aH (ms.take i)) m:=by
 rw [vV,h]
 exact Ds _ _
def kI [∀(f:Sta) (p:Plc),Decidable (Cx f p)] (ms:List Mov) (i:Nat):Plc:=match ms[i]? with
 | none=>cZ
 | some m=>(aH (ms.take i) m.2.1).getD cZ
def SLt (a b:Int×Int):Prop:=a.1<b.1\/(a.1=b.1/\a.2<b.2)
theorem nX :¬SLt a a:=by unfold SLt;omega
theorem iz {b c:Int×Int} (h:SLt a b) (k:SLt b c):SLt a c:=by unfold SLt at*;omega
theorem Ff {b:Int×Int} (h:a≠b) (k:¬SLt a b):SLt b a:=by
 obtain ⟨a1,a2⟩:=a
 obtain ⟨b1,b2⟩:=b
 have:¬(a1=b1/\a2=b2):=fun e=>h (by rw [e.1,e.2])
 unfold SLt at*
 dsimp only at*
 omega
def bL (ms:List Mov):Prop:=ms.Pairwise (fun a b=>SLt a.1 b.1)
def gX (ms:List Mov) (i:Nat) (m:Mov):List Mov:=ms.take i++m::ms.drop i
theorem ib (ms:List Mov) (i:Nat) (m:Mov):(gX ms i m).Perm (m::ms):=by
 unfold gX
 have h1:(ms.take i++m::ms.drop i).Perm (m::(ms.take i++ms.drop i)):=List.perm_middle
 rwa [vA] at h1
theorem rK (ms:List Mov) (i:Nat) (m:Mov):(gX ms i m).length=ms.length+1:=by
 rw [(ib ms i m).length_eq];rfl
theorem JL {ms:List Mov} {m:Mov} (h:bL ms) (h1:∀x∈ms.take i,SLt x.1 m.1) (h2:∀x∈ms.drop i,SLt m.1 x.1):bL (gX ms i m):=by
 unfold bL gX
 rw [List.pairwise_append]
 refine ⟨h.sublist (List.take_sublist _ _),vF.2 ⟨h2,h.sublist (List.drop_sublist _ _)⟩,fun a ha b hb=> ?_⟩
 rcases jQ.1 hb with rfl | hb
 ·exact h1 a ha
 exact iz (h1 a ha) (h2 b hb)
theorem Cr {ms:List Mov} {m:Mov} (hi:i<=ms.length):(gX ms i m).take i=ms.take i:=by
 unfold gX
 rw [vv zl,uR,Nat.min_self]
theorem gQ:∀ {l l':List Mov},l.Perm l'->bL l->bL l'->l=l'
 | [],l',hp,_,_=>by have:=hp.length_eq;cases l' with | nil=>rfl | cons _ _=>simp at this
 | a::r,[],hp,_,_=>by have:=hp.length_eq;simp at this
 | a::r,b::r',hp,h,h'=>by
  obtain ⟨h1,h2⟩:=vF.1 h
  obtain ⟨h1',h2'⟩:=vF.1 h'
  have e:a=b:=by
   rcases jQ.1 (hp.mem_iff.1 (vr (a:=a) (l:=r))) with e | ha
   ·exact e
   rcases jQ.1 (hp.mem_iff.2 (vr (a:=b) (l:=r'))) with e | hb
   ·exact e.symm
   exact absurd (iz (h1 b hb) (h1' a ha)) nX
  subst e
  rw [gQ (List.perm_cons a |>.1 hp) h2 h2']
structure IsPlaces (f:Sta) (L:List Plc):Prop where
 rise:L.Pairwise (fun a b=>a.1<b.1)
 mem:∀p,p∈L↔f p.1=some p
theorem iW:∀ {L L':List Plc},L.Pairwise (fun a b=>a.1<b.1)->L'.Pairwise (fun a b=>a.1<b.1)->(∀p,p∈L↔p∈L')->L=L'
 | [],[],_,_,_=>rfl
 | [],b::r',_,_,h=>by have:=(h b).2 zq;simp at this
 | a::r,[],_,_,h=>by have:=(h a).1 zq;simp at this
 | a::r,b::r',hl,hl',h=>by
  obtain ⟨h1,h2⟩:=vF.1 hl
  obtain ⟨h1',h2'⟩:=vF.1 hl'
  have e:a=b:=by
   rcases jQ.1 ((h a).1 zq) with e | ha
   ·exact e
   rcases jQ.1 ((h b).2 zq) with e | hb
   ·exact e.symm
   have x:=h1 b hb;have y:=h1' a ha;omega
  subst e
  rw [iW h2 h2' (fun p=> ?_)]
  constructor
  ·intro hp
   rcases jQ.1 ((h p).1 (by simp [hp])) with e | hp'
   ·subst e;have:=h1 p hp;omega
   exact hp'
  intro hp
  rcases jQ.1 ((h p).2 (by simp [hp])) with e | hp'
  ·subst e;have:=h1' p hp;omega
  exact hp'
theorem IsPlaces.unique {f:Sta} {L L':List Plc} (h:IsPlaces f L) (h':IsPlaces f L'):L=L':=
 iW h.rise h'.rise (fun p=>(h.mem p).trans (h'.mem p).symm)
end
section
open Go Go.Maps
def ai (p:Plc):List Value:=[.int .i64 p.1,.int .i64 p.2.1,.string p.2.2]
def kA (p:Plc):Value:=.agg #[.int .i64 p.1,.int .i64 p.2.1,.string p.2.2]
theorem GF {p q:Plc} (h:kA p=kA q):p=q:=by
 obtain ⟨a,b,s⟩:=p
 obtain ⟨a',b',s'⟩:=q
 simp [kA] at h
 exact kn5
def dat (p:Plc):DataW Unit:=.agg [.lit (.int .i64 p.1),.lit (.int .i64 p.2.1),.lit (.string p.2.2.data.toList)]
theorem tR {p q:Plc} (h:dat p=dat q):p=q:=by
 obtain ⟨a,b,⟨⟨s⟩⟩⟩:=p
 obtain ⟨a',b',⟨⟨s'⟩⟩⟩:=q
 simp [dat] at h
 exact kn5
def OR (l:List Value):Option (DataW Unit×List MemPlace):=match l with
 | [.int .i64 a,.int .i64 b,.string s]=>some (dat (a,b,s),[])
 | _=>none
def Ja (v:Value):Option (DataW Unit×List MemPlace):=match v with
 | .agg cs=>OR cs.toList
 | _=>none
theorem tA (p:Plc):Ja (kA p)=some (dat p,[]):=rfl
theorem Ig {l:List Value} (h:OR l=some z):∃p:Plc,l= [.int .i64 p.1,.int .i64 p.2.1,.string p.2.2]/\z=(dat p,[]):=by
 unfold OR at h
 split at h
 ·rename_i a b s
  cases h
  exact ⟨(a,b,s),rfl,rfl⟩
 cases h
theorem lP (h:Ja v=some z):∃p,v=kA p/\z=(dat p,[]):=by
 unfold Ja at h
 split at h
 ·rename_i cs
  obtain ⟨p,e,rfl⟩:=Ig h
  refine ⟨p,?_,rfl⟩
  unfold kA
  rw [<-e]
 cases h
def Wf (k:Int):Prop:=(Lit.int .i64 k).wf=true
theorem oI (h0: -2^63<=k) (h1:k<2^63):Wf k:=by
 unfold Wf
 exact kh8
theorem il {p:Plc} (h:FineP p):Wf p.1/\Wf p.2.1:=by
 have h1:=h.lo;have h2:=h.hi;have h3:=h.lo';have h4:=h.hi'
 exact ⟨oI zj zj,oI zj zj⟩
theorem Mm {f:Sta} (G:ko f) {p:Plc} (h:f k=some p):Wf k:=by
 have:=(il (G.fine k p h)).1
 rwa [G.key k p h] at this
def ReadsAs (D:DataW Unit) (f:Sta):Prop:=∀k,Wf k->match f k with
 | none=>has D (.int .i64 k)=false
 | some p=>∀z,D.atKey (.int .i64 k) z=dat p
theorem ReadsAs.none {f:Sta} (h:ReadsAs D f) (hk:Wf k) (hf:f k=none):has D (.int .i64 k)=false:=by
 exact kl0
theorem ReadsAs.some {f:Sta} (h:ReadsAs D f) (hk:Wf k) {p:Plc} (hf:f k=some p) (z:DataW Unit):D.atKey (.int .i64 k) z=dat p:=by
 exact kk0
theorem ReadsAs.has {D:DataW Unit} {f:Sta} (h:ReadsAs D f) {k:Int} (hk:Wf k):Maps.has D (.int .i64 k)=(f k).isSome:=by
 cases hf:f k with
 | none=>rw [h.none hk hf];rfl
 | some p=>rw [has_true_of_atKey (h.some hk hf)];rfl
theorem ReadsAs.at {f:Sta} (h:ReadsAs D f) (hk:Wf k):D.atKey (.int .i64 k) (dat cZ)=dat ((f k).getD cZ):=by
 cases hf:f k with
 | none=>rw [atKey_of_not_has (h.none hk hf)];rfl
 | some p=>rw [h.some hk hf];rfl
theorem mO {a:Int} (h:a≠b):Lit.int .i64 a≠Lit.int .i64 b:=fun e=>h (by injection e)
section
variable {P:Program} {K E T:TypeId}
def MapAt (P:Program) (K:TypeId) (w:World) (b n:Nat) (f:Sta):Prop:=∃D,w.ownsMap P K Ja b n D/\ReadsAs D f
theorem MapAt.lt {w:World} {b n:Nat} {f:Sta} (h:MapAt P K w b n f):b<w.heap.size:=by
 obtain ⟨D,h,_⟩:=h;exact h.lt
theorem MapAt.mono {w:World} {b n n':Nat} {f:Sta} (h:MapAt P K w b n f) (hn:n<=n'):MapAt P K w b n' f:=by
 obtain ⟨D,h,r⟩:=h;exact ⟨D,h.mono hn,r⟩
theorem MapAt.same {b:Nat} {f:Sta} (h:MapAt P K w b n f) (e:w'.heap[b]? =w.heap[b]?):MapAt P K w' b n f:=by
 exact km2
theorem MapAt.block {b:Nat} {f:Sta} (h:MapAt P K w b n f):∃es clock,w.heap[b]? =some (.map es clock):=by
 obtain ⟨D,⟨es,clock,hb,F⟩,r⟩:=h
 exact ⟨es,clock,hb⟩
theorem CF (w:World):MapAt P K (w.alloc (.map #[] 0)) w.heap.size 0 pU:=
 ⟨_,World.ownsMap_made w P K Ja,fun _ _=>rfl⟩
theorem MapAt.look {b:Nat} {f:Sta} (h:MapAt P K w b n f) (hK:P.underlying K=some (.int .i64)) (hT:P.underlying T=some (.map K E)) (hz:(zeroValue E).run P w= .ok (kA cZ) w) (hk:Wf k):
  (Instr.lookup T (.map (some b)) (.int .i64 k) true).run P w= .ok (.tuple #[kA ((f k).getD cZ),.bool (f k).isSome]) w:=by
 obtain ⟨D,h,r⟩:=h
 obtain ⟨v,ps,hrun,hv⟩:=h.look_ok (int_keyed hK) hT hz (tA cZ) (keyOf_int_mk hK hk)
 obtain ⟨p,rfl,hp⟩:=lP hv
 rw [r.at hk,Prod.mk.injEq] at hp
 rw [hrun,r.has hk,tR hp.1]
theorem MapAt.look1 {b:Nat} {f:Sta} (h:MapAt P K w b n f) (hK:P.underlying K=some (.int .i64)) (hT:P.underlying T=some (.map K E)) (hz:(zeroValue E).run P w= .ok (kA cZ) w) (hk:Wf k):
  (Instr.lookup T (.map (some b)) (.int .i64 k) false).run P w= .ok (kA ((f k).getD cZ)) w:=by
 obtain ⟨D,h,r⟩:=h
 obtain ⟨v,ps,hrun,hv⟩:=h.lookup (int_keyed hK) hT hz (tA cZ) (keyOf_int_mk hK hk)
 obtain ⟨p,rfl,hp⟩:=lP hv
 rw [r.at hk,Prod.mk.injEq] at hp
 rw [hrun,tR hp.1]
theorem FQ {f:Sta} (h:ReadsAs D f) (hD:IsMap D) (k:Int) (p:Plc):ReadsAs (D.put (.int .i64 k) (dat p)) (upd f k (some p)):=by
 intro x hx
 by_cases e:x=k
 ·subst e
  rw [fe]
  exact km1
 rw [dx e]
 cases hf:f x with
 | none=>rw [has_put_other (mO e)];exact h.none hx hf
 | some q=>intro z;rw [atKey_put_other (mO e)];exact h.some hx hf z
theorem DK {f:Sta} (h:ReadsAs D f) (k:Int):ReadsAs (D.del (.int .i64 k)) (upd f k none):=by
 intro x hx
 by_cases e:x=k
 ·subst e
  rw [fe]
  exact has_del_same
 rw [dx e]
 cases hf:f x with
 | none=>rw [has_del_other (mO e)];exact h.none hx hf
 | some q=>intro z;rw [atKey_del_other (mO e)];exact h.some hx hf z
theorem MapAt.store {w:World} {b n:Nat} {f:Sta} (h:MapAt P K w b n f) (hK:P.underlying K=some (.int .i64)) (hT:P.underlying T=some (.map K E)) (hn:n<maxLen) {k:Int} (hk:Wf k) (p:Plc):
  ∃w',(Instr.mapUpdate T (.map (some b)) (.int .i64 k) (kA p)).run P w= .ok () w'/\MapAt P K w' b (n+1) (upd f k (some p))/\w.mapTurned w' b:=by
 obtain ⟨D,h,r⟩:=h
 obtain ⟨w',hrun,h',ht⟩:=h.store (int_keyed hK) hT hn (keyOf_int_mk hK hk) (tA p)
 exact ⟨w',hrun,⟨_,h',FQ r h.isMap k p⟩,ht⟩
theorem MapAt.drop {w:World} {b n:Nat} {f:Sta} (h:MapAt P K w b n f) (hK:P.underlying K=some (.int .i64)) (hT:P.underlying T=some (.map K E)) {k:Int} (hk:Wf k) (ty:TypeId):
  ∃w',(Builtin.delete_ #[T,K] ty #[.map (some b),.int .i64 k]).run P w= .ok (.tuple #[]) w'/\MapAt P K w' b n (upd f k none)/\w.mapTurned w' b:=by
 obtain ⟨D,h,r⟩:=h
 obtain ⟨w',hrun,h',ht⟩:=h.drop (int_keyed hK) hT (keyOf_int_mk hK hk) ty
 exact ⟨w',hrun,⟨_,h',DK r k⟩,ht⟩
end
end
section
open scoped Classical
abbrev Ent:=Mov×Plc
structure LogTo (ms:List Mov) (i:Nat) (L:List Ent):Prop where
 movs:L.map (·.1)=ms
 from_:∀j x,j<i->L[j]? =some x->x.2=kI ms j
theorem LogTo.len {ms:List Mov} {L:List Ent} (h:LogTo ms i L):L.length=ms.length:=by rw [<-h.movs];simp
theorem LogTo.mov {ms:List Mov} {j:Nat} {L:List Ent} (h:LogTo ms i L) {x:Ent} (hx:L[j]? =some x):ms[j]? =some x.1:=by rw [<-h.movs];simp [hx]
theorem Dc:LogTo [] 0 []:=⟨rfl,fun _ _ h=>zj⟩
theorem lK {ms:List Mov} {m:Mov} (h:ms[i]? =some m):kI ms i=(aH (ms.take i) m.2.1).getD cZ:=by unfold kI;rw [h]
theorem rZ {ms ms':List Mov} (h:ms.take (i+1)=ms'.take (i+1)):kI ms i=kI ms' i:=by
 have h1:ms[i]? =ms'[i]? :=by
  have e1:(ms.take (i+1))[i]? =ms[i]? :=by rw [uf,if_pos zj]
  have e2:(ms'.take (i+1))[i]? =ms'[i]? :=by rw [uf,if_pos zj]
  rw [<-e1,<-e2,h]
 have h2:ms.take i=ms'.take i:=by
  have e1:(ms.take (i+1)).take i=ms.take i:=qG
  have e2:(ms'.take (i+1)).take i=ms'.take i:=qG
  rw [<-e1,<-e2,h]
 unfold kI
 rw [h1,h2]
def ES (L:List Ent) (i:Nat) (x:Ent):List Ent:=L.take i++x::L.drop i
theorem Gb {ms:List Mov} {L:List Ent} {m:Mov} (h:LogTo ms ms.length L) (hi:i<=ms.length) (fr:Plc):LogTo (gX ms i m) i (ES L i (m,fr)):=by
 refine ⟨?_,fun j x hj hx=> ?_⟩
 ·unfold ES gX
  simp [<-h.movs,List.map_take,List.map_drop]
 have hx':L[j]? =some x:=by
  unfold ES at hx
  rwa [uC (by simp;have:=h.len;omega),uf,if_pos hj] at hx
 rw [h.from_ j x zj hx']
 refine rZ ?_
 unfold gX
 rw [vv zl,uR]
 congr 1
 omega
theorem NT {ms:List Mov} {L:List Ent} {x:Ent} (h:LogTo ms i L) (hx:L[i]? =some x):LogTo ms (i+1) (L.set i (x.1,kI ms i)):=by
 refine ⟨?_,fun j y hj hy=> ?_⟩
 ·rw [<-h.movs,List.map_set]
  apply List.ext_getElem?
  intro j
  by_cases e:j=i
  ·subst e
   have hl:=(jI.1 hx).1
   rw [uZ yJ]
   simp [hx]
  rw [List.getElem?_set_ne zj]
 by_cases e:j=i
 ·subst e
  rw [uZ (jI.1 hx).1] at hy
  cases hy
  rfl
 rw [List.getElem?_set_ne zj] at hy
 exact h.from_ j y zj hy
def sI (ms:List Mov) (s:Int×Int) (i:Nat) (b:Bool):Prop:=
 (b=true/\∃m,ms[i]? =some m/\m.1=s)\/(b=false/\i<=ms.length/\(∀x∈ms.take i,SLt x.1 s)/\∀x∈ms.drop i,SLt s x.1)
def CO (ms:List Mov) (s:Int×Int) (i:Nat):Prop:=∀x∈ms.drop i,SLt s x.1
theorem Dm (ms:List Mov) (s:Int×Int):CO ms s ms.length:=fun x hx=>zP
theorem Bn {ms:List Mov} {m:Mov} (h:ms[i]? =some m) (e:m.1=s):sI ms s i true:=.inl ⟨rfl,m,h,e⟩
theorem Ac {ms:List Mov} {m:Mov} (hb:bL ms) (hl:CO ms s (i+1)) (h:ms[i]? =some m) (e:SLt m.1 s):sI ms s (i+1) false:=by
 have hi:=(jI.1 h).1
 refine .inr ⟨rfl,zj,fun x hx=> ?_,hl⟩
 rw [vV,h] at hx
 rcases jO.1 hx with hx | hx
 ·refine iz ?_ e
  have hp:(ms.take i++ms.drop i).Pairwise (fun a b=>SLt a.1 b.1):=by rw [vA];exact hb
  refine (List.pairwise_append.1 hp).2.2 x hx m ?_
  rw [List.mem_iff_getElem?]
  exact ⟨0,by rw [vW,vI,h]⟩
 simp at hx
 rw [hx];exact e
theorem Cm {ms:List Mov} {m:Mov} (hl:CO ms s (i+1)) (h:ms[i]? =some m) (ne:m.1≠s) (nl:¬SLt m.1 s):CO ms s i:=by
 intro x hx
 have hi:=(jI.1 h)
 rw [un hi.1] at hx
 rcases jQ.1 hx with rfl | hx
 ·rw [hi.2];exact Ff ne nl
 exact hl x hx
theorem wY {ms:List Mov} (hl:CO ms s 0):sI ms s 0 false:=.inr ⟨rfl,jX _,fun x hx=>zP,hl⟩
theorem FW {ms:List Mov} {b:Bool} (h:sI ms s i b) (hn:∀m∈ms,m.1≠s):b=false/\i<=ms.length/\(∀x∈ms.take i,SLt x.1 s)/\∀x∈ms.drop i,SLt s x.1:=by
 rcases h with ⟨_,m,hm,e⟩ | h
 ·exact absurd e (hn m (jT hm))
 exact h
end
section
open Go Go.Maps
abbrev kw:=Int->Option Nat
def noT:kw:=fun _=>none
def kZ (p:Option Nat):Value:=.pointer (p.map fun b=>⟨b,0,none⟩)
def DZ (p:Option Nat):DataW Unit:=match p with
 | none=>.agg []
 | some b=>.agg [.lit (.int .i64 (b:Int))]
theorem AG {p q:Option Nat} (h:DZ p=DZ q):p=q:=by
 cases p<;>cases q<;>simp [DZ] at h |-
 omega
def Je (v:Value):Option (DataW Unit×List MemPlace):=match v with
 | .pointer none=>some (DZ none,[])
 | .pointer (some ⟨b,0,none⟩)=>some (DZ (some b),[])
 | _=>none
theorem tV (p:Option Nat):Je (kZ p)=some (DZ p,[]):=by cases p<;>rfl
theorem pN (h:Je v=some z):∃p,v=kZ p/\z=(DZ p,[]):=by
 unfold Je at h
 split at h
 ·cases h;exact ⟨none,rfl,rfl⟩
 ·cases h;exact ⟨some _,rfl,rfl⟩
 cases h
def ReadsT (D:DataW Unit) (f:kw):Prop:=∀k,Wf k->match f k with
 | none=>has D (.int .i64 k)=false
 | some p=>∀z,D.atKey (.int .i64 k) z=DZ (some p)
theorem ReadsT.gone {f:kw} (h:ReadsT D f) (hk:Wf k) (hf:f k=none):has D (.int .i64 k)=false:=by
 exact kl0
theorem ReadsT.held {f:kw} (h:ReadsT D f) (hk:Wf k) {p:Nat} (hf:f k=some p) (z:DataW Unit):D.atKey (.int .i64 k) z=DZ (some p):=by
 exact kk0
theorem ReadsT.has {D:DataW Unit} {f:kw} (h:ReadsT D f) {k:Int} (hk:Wf k):Maps.has D (.int .i64 k)=(f k).isSome:=by
 cases hf:f k with
 | none=>rw [h.gone hk hf];rfl
 | some p=>rw [has_true_of_atKey (h.held hk hf)];rfl
theorem ReadsT.at {f:kw} (h:ReadsT D f) (hk:Wf k):D.atKey (.int .i64 k) (DZ none)=DZ (f k):=by
 cases hf:f k with
 | none=>rw [atKey_of_not_has (h.gone hk hf)]
 | some p=>rw [h.held hk hf]
theorem Ao {f:kw} (h:ReadsT D f) (hD:IsMap D) (k:Int) (p:Nat):ReadsT (D.put (.int .i64 k) (DZ (some p))) (fun x=>if x=k then some p else f x):=by
 intro x hx
 dsimp only
 by_cases e:x=k
 ·subst e
  rw [if_pos rfl]
  exact km1
 rw [if_neg e]
 cases hf:f x with
 | none=>rw [has_put_other (mO e)];exact h.gone hx hf
 | some q=>intro z;rw [atKey_put_other (mO e)];exact h.held hx hf z
def Ln (f:kw):Prop:=∀k p,f k=some p->Wf k
structure TMapAt (w:World) (b n:Nat) (f:kw):Prop where
 reads:∃D,w.ownsMap prog 3 Je b n D/\ReadsT D f
 good:Ln f
theorem TMapAt.lt {w:World} {b n:Nat} {f:kw} (h:TMapAt w b n f):b<w.heap.size:=by
 obtain ⟨D,h,_⟩:=h.reads;exact h.lt
theorem TMapAt.same {b:Nat} {f:kw} (h:TMapAt w b n f) (e:w'.heap[b]? =w.heap[b]?):TMapAt w' b n f:=by
 exact kk7
theorem sy (w:World):TMapAt (w.alloc (.map #[] 0)) w.heap.size 0 noT:=
 ⟨⟨_,World.ownsMap_made w prog 3 Je,fun _ _=>rfl⟩,fun k p h=>qS⟩
theorem AL (w:World):(zeroValue 124).run prog w= .ok (kZ none) w:=zeroValue124 w
theorem TMapAt.look {b:Nat} {f:kw} (h:TMapAt w b n f) (hk:Wf k):
  (Instr.lookup 114 (.map (some b)) (.int .i64 k) true).run prog w= .ok (.tuple #[kZ (f k),.bool (f k).isSome]) w:=by
 obtain ⟨⟨D,h,r⟩,_⟩:=h
 obtain ⟨v,ps,hrun,hv⟩:=h.look_ok (int_keyed underlying3) underlying114 (AL w) (tV none) (keyOf_int_mk underlying3 hk)
 obtain ⟨p,rfl,hp⟩:=pN hv
 rw [r.at hk,Prod.mk.injEq] at hp
 rw [hrun,r.has hk,AG hp.1]
theorem TMapAt.look1 {b:Nat} {f:kw} (h:TMapAt w b n f) (hk:Wf k):
  (Instr.lookup 114 (.map (some b)) (.int .i64 k) false).run prog w= .ok (kZ (f k)) w:=by
 obtain ⟨⟨D,h,r⟩,_⟩:=h
 obtain ⟨v,ps,hrun,hv⟩:=h.lookup (int_keyed underlying3) underlying114 (AL w) (tV none) (keyOf_int_mk underlying3 hk)
 obtain ⟨p,rfl,hp⟩:=pN hv
 rw [r.at hk,Prod.mk.injEq] at hp
 rw [hrun,AG hp.1]
theorem TMapAt.store {w:World} {b n:Nat} {f:kw} (h:TMapAt w b n f) (hn:n<maxLen) {k:Int} (hk:Wf k) (p:Nat):
  ∃w',(Instr.mapUpdate 114 (.map (some b)) (.int .i64 k) (kZ (some p))).run prog w= .ok () w'/\TMapAt w' b (n+1) (fun x=>if x=k then some p else f x)/\w.mapTurned w' b:=by
 obtain ⟨⟨D,h,r⟩,g⟩:=h
 obtain ⟨w',hrun,h',ht⟩:=h.store (int_keyed underlying3) underlying114 hn (keyOf_int_mk underlying3 hk) (tV (some p))
 refine ⟨w',hrun,⟨⟨_,h',Ao r h.isMap k p⟩,fun x q hx=> ?_⟩,ht⟩
 split at hx
 ·rename_i e;rw [e];exact hk
 exact g x q hx
end
section
open Go Go.RowKit
structure Keeps (S:Nat->Prop) (w w':World):Prop where
 os:w'.os=w.os
 tape:w'.tape=w.tape
 output:w'.output=w.output
 size:w.heap.size<=w'.heap.size
 block:∀k,k<w.heap.size->¬S k->w'.heap[k]? =w.heap[k]?
theorem Keeps.refl (S:Nat->Prop) (w:World):Keeps S w w:=⟨rfl,rfl,rfl,jL _,fun _ _ _=>rfl⟩
theorem Keeps.trans {S:Nat->Prop} {a b c:World} (h:Keeps S a b) (k:Keeps S b c):Keeps S a c:=
 ⟨k.os.trans h.os,k.tape.trans h.tape,k.output.trans h.output,jM h.size k.size,fun i hi hs=>(k.block i (jW hi h.size) hs).trans (h.block i hi hs)⟩
theorem Keeps.then {S T:Nat->Prop} {a b c:World} (h:Keeps S a b) (k:Keeps T b c) (hT:∀i,i<a.heap.size->T i->S i):Keeps S a c:=
 ⟨k.os.trans h.os,k.tape.trans h.tape,k.output.trans h.output,jM h.size k.size,fun i hi hs=>(k.block i (jW hi h.size) (fun ht=>hs (hT i hi ht))).trans (h.block i hi hs)⟩
theorem Keeps.mono {S T:Nat->Prop} (h:Keeps S w w') (hs:∀k,k<w.heap.size->S k->T k):Keeps T w w':=
 ⟨h.os,h.tape,h.output,h.size,fun k hk ht=>h.block k hk (fun e=>ht (hs k hk e))⟩
theorem aP {row:Option Nat} (h:w.grownBy w' row):Keeps (fun k=>some k=row) w w':=
 ⟨h.os,h.tape,h.output,h.size,fun k hk hs=>h.block k hk hs⟩
theorem aV (h:Below B w w'):Keeps (fun k=>B<=k) w w':=
 ⟨h.os,h.tape,h.output,h.size,fun k _ hs=>h.block k zj⟩
theorem Keeps.below {S:Nat->Prop} (h:Keeps S w w') (hB:B<=w.heap.size) (hs:∀k,S k->B<=k):Below B w w':=
 ⟨h.os,h.tape,h.output,h.size,fun k hk=>h.block k zj (fun e=>by have:=hs k e;omega)⟩
theorem Keeps.drew {S:Nat->Prop} {w w':World} (h:Keeps S w w'):Keeps S w w'.drew:=⟨h.os,h.tape,h.output,h.size,h.block⟩
theorem Keeps.alloc {S:Nat->Prop} {w w':World} (h:Keeps S w w') (o:Obj):Keeps S w (w'.alloc o):=
 h.then (aP (World.grownBy_alloc w' o none)) (fun _ _ e=>qu)
theorem Keeps.cell {S:Nat->Prop} {w w':World} (h:Keeps S w w') {a:Addr} (ha:a.block<w.heap.size) (hs:¬S a.block):w'.cell? a=w.cell? a:=vi (h.block _ ha hs)
def Ca (c:Array Value):Nat->List Value->Array Value
 | _,[]=>c
 | o,v::r=>Ca (c.setIfInBounds o v) (o+1) r
theorem dG:∀(vs:List Value) (o:Nat) (c:Array Value),(Ca c o vs).size=c.size
 | [],_,_=>rfl
 | v::r,o,c=>by rw [Ca,dG r];simp
theorem dC:∀(vs A B C:List Value) (c:Array Value),c.toList=A++B++C->B.length=vs.length->(Ca c A.length vs).toList=A++vs++C
 | [],A,B,C,c,h,hl=>by
  have:B= []:=ve.1 hl
  subst this
  simpa [Ca] using h
 | v::r,A,[],C,c,h,hl=>by simp at hl
 | v::r,A,b::B,C,c,h,hl=>by
  have ih:=dC r (A++ [v]) B C (c.setIfInBounds A.length v) (by simp [h]) yJ
  rw [Ca]
  simpa using ih
theorem ag (b:Nat):∀(vs:List Value) (o:Nat) (w:World) (c:Array Value) (t:TypeId),w.heap[b]? =some (.cells c t (0,0))->(w.setCells b o vs).heap[b]? =some (.cells (Ca c o vs) t (0,0))
 | [],_,_,_,_,h=>h
 | v::r,o,w,c,t,h=>ag b r (o+1) _ _ t (heap_setCell_same w b o c t v h)
theorem aJ (b:Nat):∀(vs:List Value) (o:Nat) (w:World) (k:Nat),k≠b->(w.setCells b o vs).heap[k]? =w.heap[k]?
 | [],_,_,_,_=>rfl
 | v::r,o,w,k,h=>by rw [World.setCells,aJ b r _ _ k h];exact heap_setCell_other w ⟨b,o,none⟩ k v h
theorem aY (b:Nat):∀(vs:List Value) (o:Nat) (w:World),Keeps (fun k=>k=b) w (w.setCells b o vs)
 | [],_,w=>Keeps.refl _ w
 | v::r,o,w=>by
  refine Keeps.trans (b:=w.setCell ⟨b,o,none⟩ v) ⟨rfl,rfl,rfl,?_,fun k _ hk=>heap_setCell_other w ⟨b,o,none⟩ k v hk⟩ (aY b r (o+1) _)
  simp [World.setCell]
theorem cG {P:Program} (w:World) (dT sT ty elem:TypeId) (k b o dLen dCap:Nat) (a:Addr) (sLen sCap:Nat) (cs:List Value)
  (hu:P.underlying dT=some (.slice elem)) (hs:(P.info? elem).map (·.size)=some k) (hn:cs.length=Nat.min sLen dLen*k)
  (hsrc:∀j v,cs[j]? =some v->w.cell? (a.add j)=some v) (hc:∀j,j<cs.length->(w.cell? ⟨b,o+j,none⟩).isSome=true) (hf:∀j,j<cs.length->w.frozen? ⟨b,o+j,none⟩=false) (h1:∀v∈cs,v.oneCell'=true):
  (Builtin.copy_ #[dT,sT] ty #[.slice (some ⟨b,o,none⟩) dLen dCap,.slice (some a) sLen sCap]).run P w= .ok (goInt (Nat.min sLen dLen)) (w.setCells b o cs):=by
 have hl:=run_loadCells_list (P:=P) w a cs hsrc
 have hst:=run_storeCells_cells (P:=P) b o cs 0 w (by simpa using hc) (by simpa using hf) h1
 cases hq:P.info? elem with
 | none=>simp [hq] at hs
 | some i=>
  have hi:i.size=k:=by simpa [hq] using hs
  simp only [vI] at hst
  simp [Builtin.copy_,run_underlying hu,Builtin.lenOf,Builtin.firstCells,sizeOf,typeInfo,hq,hi,<-hn,hl,hst]
theorem tE {base k cap:Nat} (h:w.ownsRow base E k (.slice (some ⟨g,0,none⟩) n cap) n xs) (hroom:n+1<=cap) (hi:i<=n) (hv:vs.length=k):
  ((w.setCells g ((i+1)*k) (xs.drop (i*k))).setCells g (i*k) vs).ownsRow base E k (.slice (some ⟨g,0,none⟩) (n+1) cap) (n+1) (xs.take (i*k)++vs++xs.drop (i*k)):=by
 obtain ⟨hl,h2⟩:=h
 rcases h2 with ⟨hc,_⟩ | ⟨g',cap',cur,hc,hb,hg,hn,hm,hs,ht⟩
 ·cases hc
 cases hc
 have hik:i*k<=n*k:=vK k hi
 have hnk:(n+1)*k=n*k+k:=xn
 have hi1:(i+1)*k=i*k+k:=xn
 have hck:(n+1)*k<=cap*k:=vK k hroom
 have hcl:cur.toList.length=cap*k:=by simpa using hs
 have hcur:cur.toList=xs++cur.toList.drop (n*k):=by
  conv=>lhs;rw [<-vA (n*k) cur.toList]
  rw [ht]
 obtain ⟨C,hC⟩:=za (cur.toList.drop (n*k))
 rw [<-hC] at hcur
 have hCl:C.length=cap*k - n*k:=by rw [hC,vx,hcl]
 have hdl:(xs.drop (i*k)).length=n*k - i*k:=by rw [vx,hl]
 have htl:(xs.take (i*k)).length=i*k:=by rw [vj,hl];omega
 have hg1:=ag g (xs.drop (i*k)) ((i+1)*k) w cur E hg
 have e1:(cur.toList.take ((i+1)*k)).length=(i+1)*k:=by rw [vj,hcl];omega
 have o1:=dC (xs.drop (i*k)) (cur.toList.take ((i+1)*k)) ((cur.toList.drop ((i+1)*k)).take (n*k - i*k)) ((cur.toList.drop ((i+1)*k)).drop (n*k - i*k)) cur
  (by rw [vn,vA,vA]) (by rw [vj,vx,hdl,hcl];omega)
 rw [e1] at o1
 obtain ⟨c1,hc1⟩:=za (Ca cur ((i+1)*k) (xs.drop (i*k)))
 rw [<-hc1] at o1 hg1
 have hs1:c1.size=cap*k:=by rw [hc1,dG,hs]
 have hg2:=ag g vs (i*k) _ c1 E hg1
 have hA:cur.toList.take ((i+1)*k)=xs.take (i*k)++(cur.toList.drop (i*k)).take k:=by
  rw [hi1,List.take_add]
  congr 1
  rw [hcur,vv zj]
 have o2:=dC vs (xs.take (i*k)) ((cur.toList.drop (i*k)).take k) (xs.drop (i*k)++(cur.toList.drop ((i+1)*k)).drop (n*k - i*k)) c1
  (by rw [o1,hA];simp [vn]) (by rw [vj,vx,hcl,hv];omega)
 rw [htl] at o2
 refine ⟨?_,.inr ⟨g,cap,_,rfl,hb,hg2,hroom,hm,by rw [dG,hs1],?_⟩⟩
 ·rw [jP,jP,htl,hv,hdl];omega
 rw [o2,<-vn,vv qP,vm qP]
theorem Ab {base k G:Nat} {Z:List Value} {row:Array Value} (hg:w.heap[g]? =some (.cells row E (0,0))) (hrow:row.toList=xs.take (i*k)++Z) (hs:row.size=G*k)
  (hb:base<=g) (hroom:n+1<=G) (hm:G<=maxLen) (hi:i<=n) (hl:xs.length=n*k) (hv:vs.length=k):
  ((w.setCells g (i*k) vs).setCells g ((i+1)*k) (xs.drop (i*k))).ownsRow base E k (.slice (some ⟨g,0,none⟩) (n+1) G) (n+1) (xs.take (i*k)++vs++xs.drop (i*k)):=by
 have hik:i*k<=n*k:=vK k hi
 have hnk:(n+1)*k=n*k+k:=xn
 have hi1:(i+1)*k=i*k+k:=xn
 have hck:(n+1)*k<=G*k:=vK k hroom
 have hdl:(xs.drop (i*k)).length=n*k - i*k:=by rw [vx,hl]
 have htl:(xs.take (i*k)).length=i*k:=by rw [vj,hl];omega
 have hZl:Z.length=G*k - i*k:=by
  have:row.toList.length=G*k:=by simpa using hs
  rw [hrow,jP,htl] at this
  omega
 have hg1:=ag g vs (i*k) w row E hg
 have o1:=dC vs (xs.take (i*k)) (Z.take k) (Z.drop k) row (by rw [hrow,vn,vA]) (by rw [vj,hZl,hv];omega)
 rw [htl] at o1
 obtain ⟨c1,hc1⟩:=za (Ca row (i*k) vs)
 rw [<-hc1] at o1 hg1
 have hs1:c1.size=G*k:=by rw [hc1,dG,hs]
 have hg2:=ag g (xs.drop (i*k)) ((i+1)*k) _ c1 E hg1
 have hal:(xs.take (i*k)++vs).length=(i+1)*k:=by rw [jP,htl,hv,hi1]
 have o2:=dC (xs.drop (i*k)) (xs.take (i*k)++vs) ((Z.drop k).take (n*k - i*k)) ((Z.drop k).drop (n*k - i*k)) c1
  (by rw [o1];simp only [vn,vA]) (by rw [vj,vx,hZl,hdl];omega)
 rw [hal] at o2
 refine ⟨?_,.inr ⟨g,G,_,rfl,hb,hg2,hroom,hm,by rw [dG,hs1],?_⟩⟩
 ·rw [jP,hal,hdl];omega
 rw [o2,vv jp,vm jp]
end
section
open Go.RowKit Go.Maps
theorem Jt (w:World):(zeroValue 119).run prog w= .ok (kA cZ) w:=zeroValue119 w
theorem MapAt.looks {b:Nat} {f:Sta} (h:MapAt prog 3 w b n f) (hk:Wf k):
  (Instr.lookup 193 (.map (some b)) (.int .i64 k) true).run prog w= .ok (.tuple #[kA ((f k).getD cZ),.bool (f k).isSome]) w:=
 h.look underlying3 underlying193 (Jt w) hk
theorem MapAt.looks1 {b:Nat} {f:Sta} (h:MapAt prog 3 w b n f) (hk:Wf k):
  (Instr.lookup 193 (.map (some b)) (.int .i64 k) false).run prog w= .ok (kA ((f k).getD cZ)) w:=
 h.look1 underlying3 underlying193 (Jt w) hk
theorem KB (w:World):Calls prog 66 #[] w fun e w'=>e= .returned (.pointer (some ⟨w.heap.size+1,0,none⟩))/\w'=(w.alloc (.map #[] 0)).alloc (.cells #[.map (some w.heap.size),.slice none 0 0] 196):=by
 have hmm:= @run_makeMap prog
 go_enter func66,ntmps66
 exact ka9
end
section
open Go.RowKit
def dO (t b t' b':Int):Bool:=if t=t' then decide (b<b') else decide (t<t')
theorem oA (t b t' b':Int) (w:World):
  Calls prog 128 #[.agg #[.int .i64 t,.int .i64 b],.agg #[.int .i64 t',.int .i64 b']] w fun e w'=>e= .returned (.bool (dO t b t' b'))/\Below w.heap.size w w':=by
 unfold dO
 by_cases h:t=t'
 ·have hd:(t !=t')=false:=by simp [h]
  rw [if_pos h]
  exact ki5
 have hd:(t !=t')=true:=by simp [h]
 rw [if_neg h]
 exact ki5
end
section
open Go.RowKit
