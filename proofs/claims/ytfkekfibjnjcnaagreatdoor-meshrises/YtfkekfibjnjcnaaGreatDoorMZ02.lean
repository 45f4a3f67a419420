import Derived.Test.YtfkekfibjnjcnaaGreatDoorMacA
import Derived.Sort.LotA
import Derived.Test.YtfkekfibjnjcnaaGreatDoorProg
import Derived.BigQuiet
import Derived.WalkSmall
set_option linter.unusedSimpArgs false
set_option linter.unusedVariables false
set_option maxHeartbeats 64000000
namespace Go.Proofs.YtfkekfibjnjcnaaGreatDoor
open Go.Proofs.Tryz
variable {D:DataW Unit} {z:DataW Unit×List MemPlace} {k r x:Int} {a s:Int×Int} {vs xs:List Value} {B b cap g i j n:Nat} {P:Program} {E:TypeId} {v:Value} {w w':World}
section
abbrev Ltr:=Int×Nat×Bool
def laid (x:Ltr):List Ltr->List Ltr
 | []=>[x]
 | h::t=>if x.1<h.1 then h::laid x t else x::h::t
def putB (b:Int) (x:Ltr):List Ltr->List Ltr
 | []=>[]
 | h::t=>if h.1=b then h::laid x t else h::putB b x t
def put (b:Int) (x:Ltr) (L:List Ltr):List Ltr:=if b=0 then laid x L else putB b x L
theorem laid_yes {x h:Ltr} (k:x.1<h.1) (t:List Ltr):laid x (h::t)=h::laid x t:=by simp [laid,k]
theorem laid_no {x h:Ltr} (k:¬x.1<h.1) (t:List Ltr):laid x (h::t)=x::h::t:=by simp [laid,k]
theorem putB_yes {b:Int} {x h:Ltr} (k:h.1=b) (t:List Ltr):putB b x (h::t)=h::laid x t:=by simp [putB,k]
theorem putB_no {b:Int} {x h:Ltr} (k:h.1≠b) (t:List Ltr):putB b x (h::t)=h::putB b x t:=by simp [putB,k]
theorem laid_comm (x y:Ltr) (h:x.1≠y.1):∀L,laid y (laid x L)=laid x (laid y L)
 | []=>by
  by_cases k:x.1<y.1
  ·rw [show laid x []= [x] from rfl,show laid y []= [y] from rfl,laid_yes k,laid_no zj];rfl
  rw [show laid x []= [x] from rfl,show laid y []= [y] from rfl,laid_no k,laid_yes zj];rfl
 | g::t=>by
  by_cases kx:x.1<g.1
  ·by_cases ky:y.1<g.1
   ·rw [laid_yes kx,laid_yes ky,laid_yes ky,laid_yes kx,laid_comm x y h t]
   rw [laid_yes kx,laid_no ky,laid_no ky,laid_yes zj,laid_yes kx]
  by_cases ky:y.1<g.1
  ·rw [laid_no kx,laid_yes ky,laid_yes zj,laid_yes ky,laid_no kx]
  rw [laid_no kx,laid_no ky]
  by_cases k:x.1<y.1
  ·rw [laid_no zj,laid_yes k,laid_no kx]
  rw [laid_yes zj,laid_no k,laid_no ky]
theorem putB_laid (x y:Ltr) (b:Int) (h:x.1≠y.1) (hb:b≠x.1):∀L,putB b y (laid x L)=laid x (putB b y L)
 | []=>by
  rw [show laid x []= [x] from rfl,putB_no (fun e=>hb e.symm)];rfl
 | g::t=>by
  by_cases kx:x.1<g.1
  ·rw [laid_yes kx]
   by_cases kb:g.1=b
   ·rw [putB_yes kb,putB_yes kb,laid_yes kx,laid_comm x y h t]
   rw [putB_no kb,putB_no kb,laid_yes kx,putB_laid x y b h hb t]
  rw [laid_no kx,putB_no (fun e=>hb e.symm)]
  by_cases kb:g.1=b
  ·rw [putB_yes kb,laid_no kx]
  rw [putB_no kb,laid_no kx]
theorem putB_comm (x y:Ltr) (a b:Int) (h:x.1≠y.1) (ha:a≠y.1) (hb:b≠x.1):∀L,putB b y (putB a x L)=putB a x (putB b y L)
 | []=>rfl
 | g::t=>by
  by_cases ka:g.1=a
  ·rw [putB_yes ka]
   by_cases kb:g.1=b
   ·rw [putB_yes kb,putB_yes kb,putB_yes ka,laid_comm x y h t]
   rw [putB_no kb,putB_no kb,putB_yes ka,putB_laid x y b h hb t]
  rw [putB_no ka]
  by_cases kb:g.1=b
  ·rw [putB_yes kb,putB_yes kb,putB_no ka,putB_laid y x a (fun e=>h e.symm) ha t]
  rw [putB_no kb,putB_no kb,putB_no ka,putB_comm x y a b h ha hb t]
theorem put_comm (x y:Ltr) (a b:Int) (h:x.1≠y.1) (ha:a≠y.1) (hb:b≠x.1) (L:List Ltr):put b y (put a x L)=put a x (put b y L):=by
 unfold put
 by_cases h0:a=0
 ·rw [if_pos h0,if_pos h0]
  by_cases h1:b=0
  ·rw [if_pos h1,if_pos h1,laid_comm x y h]
  rw [if_neg h1,if_neg h1,putB_laid x y b h hb]
 rw [if_neg h0,if_neg h0]
 by_cases h1:b=0
 ·rw [if_pos h1,if_pos h1,putB_laid y x a (fun e=>h e.symm) ha]
 rw [if_neg h1,if_neg h1,putB_comm x y a b h ha hb]
def putAll (s:List (Int×Ltr)) (L:List Ltr):List Ltr:=s.foldl (fun L m=>put m.1 m.2 L) L
theorem putAll_app (s r:List (Int×Ltr)) (L:List Ltr):putAll (s++r) L=putAll r (putAll s L):=by simp [putAll]
theorem putAll_one (m:Int×Ltr) (L:List Ltr):putAll [m] L=put m.1 m.2 L:=rfl
theorem putAll_past (m:Int×Ltr):∀(r:List (Int×Ltr)) (L:List Ltr),(∀y∈r,m.2.1≠y.2.1/\m.1≠y.2.1/\y.1≠m.2.1)->putAll r (put m.1 m.2 L)=put m.1 m.2 (putAll r L)
 | [],_,_=>rfl
 | y::r,L,h=>by
  obtain ⟨h1,h2,h3⟩:=h y zm
  show putAll r (put y.1 y.2 (put m.1 m.2 L))=put m.1 m.2 (putAll r (put y.1 y.2 L))
  rw [put_comm m.2 y.2 m.1 y.1 h1 h2 h3]
  exact putAll_past m r _ (fun z hz=>h z jL)
def First (s:List (Int×Ltr)):Prop:=(s.map (·.2.1)).Nodup/\(∀m∈s,m.2.1≠0)/\∀u m v,s=u++m::v->m.1=0\/∃y∈u,y.2.1=m.1
theorem first_init {s:List (Int×Ltr)} {m:Int×Ltr} (h:First (s++ [m])):First s:=by
 obtain ⟨h1,h2,h3⟩:=h
 rw [uq] at h1
 refine ⟨(uf.1 h1).1,fun x hx=>h2 x jh,fun u x v e=>h3 u x (v++ [m]) (by rw [e];simp)⟩
theorem first_last {s:List (Int×Ltr)} {m:Int×Ltr} (h:First (s++ [m])):∀y∈s,y.2.1≠m.2.1/\y.1≠m.2.1:=by
 obtain ⟨h1,h2,h3⟩:=h
 rw [uq] at h1
 have hd:∀y∈s,y.2.1≠m.2.1:=fun y hy e=>(uf.1 h1).2.2 _ (vV.2 ⟨y,hy,rfl⟩) _ zm e
 intro y hy
 refine ⟨hd y hy,fun e=> ?_⟩
 obtain ⟨u,v,rfl⟩:=List.append_of_mem hy
 rcases h3 u y (v++ [m]) zm with h0 | ⟨z,hz,he⟩
 ·exact h2 m zm (by rw [<-e,h0])
 exact hd z jL (by rw [he,e])
theorem first_drop {u v:List (Int×Ltr)} {m:Int×Ltr} (h:First (u++m::v)) (hm:∀y∈v,y.1≠m.2.1):First (u++v):=by
 obtain ⟨h1,h2,h3⟩:=h
 have hsub:(u++v).Sublist (u++m::v):=List.Sublist.append_left (List.sublist_cons_self _ _) u
 refine ⟨h1.sublist (hsub.map _),fun x hx=>h2 x (hsub.subset hx),fun a x b e=> ?_⟩
 rcases List.append_eq_append_iff.1 e with ⟨c,rfl,hc⟩ | ⟨c,rfl,hc⟩
 ·rcases h3 (u++m::c) x b (by rw [hc];simp) with h0 | ⟨z,hz,he⟩
  ·exact .inl h0
  right
  rcases vv.1 hz with hz | hz
  ·exact ⟨z,jL,he⟩
  rcases vz.1 hz with rfl | hz
  ·exact absurd he.symm (hm x (by rw [hc];simp))
  exact ⟨z,jL,he⟩
 cases c with
 | nil=>
  simp only [ur,uA] at hc h3 |-
  rcases h3 (a++ [m]) x b (by rw [<-hc];simp) with h0 | ⟨z,hz,he⟩
  ·exact .inl h0
  right
  rcases vv.1 hz with hz | hz
  ·exact ⟨z,hz,he⟩
  rw [vA] at hz
  subst hz
  exact absurd he.symm (hm x (by rw [<-hc];simp))
 | cons y c=>
  injection hc with e1 e2
  subst e1
  exact h3 a x (c++m::v) zm
theorem snoc_cases {α:Type} :∀(l:List α),l= []\/∃s m,l=s++ [m]
 | []=>.inl rfl
 | x::t=>by
  rcases snoc_cases t with rfl | ⟨s,m,rfl⟩
  ·exact .inr ⟨[],x,rfl⟩
  exact .inr ⟨x::s,m,rfl⟩
theorem putAll_turned:∀(n:Nat) (s r:List (Int×Ltr)),s.length=n->s.Perm r->First s->First r->putAll s []=putAll r []
 | 0,s,r,hn,hp,_,_=>by
  obtain rfl:=vM.1 hn
  rw [hp.symm.eq_nil]
 | n+1,s,r,hn,hp,hs,hr=>by
  rcases snoc_cases s with rfl | ⟨s',m,rfl⟩
  ·simp at hn
  obtain ⟨u,v,rfl⟩:=List.append_of_mem (hp.mem_iff.1 (show m∈s'++ [m] by simp))
  have hl:=first_last hs
  have hp':s'.Perm (u++v):=by
   have h1:(m::s').Perm (m::(u++v)):=((List.perm_append_singleton m s').symm.trans hp).trans List.perm_middle
   exact h1.cons_inv
  have hv:∀y∈v,y.2.1≠m.2.1/\y.1≠m.2.1:=fun y hy=>hl y (hp'.mem_iff.2 xq)
  have hmv:∀y∈v,m.1≠y.2.1:=by
   intro y hy e
   obtain ⟨h1,h2,h3⟩:=hr
   rcases h3 u m v rfl with h0 | ⟨z,hz,he⟩
   ·exact h2 y xq (by rw [<-e,h0])
   rw [uq,ug] at h1
   exact (uf.1 h1).2.2 _ (vV.2 ⟨z,hz,rfl⟩) _ (vF _ (vV.2 ⟨y,hy,rfl⟩)) (by rw [he,e])
  have hr':=first_drop hr (fun y hy=>(hv y hy).2)
  have ih:=putAll_turned n s' (u++v) ql hp' (first_init hs) hr'
  rw [putAll_app,putAll_one,ih,show u++m::v=u++([m]++v) by simp,putAll_app,putAll_app,putAll_app,putAll_one]
  exact (putAll_past m v _ (fun y hy=>⟨fun e=>(hv y hy).1 e.symm,hmv y hy,(hv y hy).2⟩)).symm
end
section
def skipN (x:Int):List Ltr->Nat
 | []=>0
 | h::t=>if x<h.1 then skipN x t+1 else 0
def findL (b:Int):List Ltr->Option Nat
 | []=>none
 | h::t=>if h.1=b then some 0 else (findL b t).map (· +1)
theorem skipN_le (x:Int):∀L,skipN x L<=L.length
 | []=>vm _
 | h::t=>by
  unfold skipN
  split
  ·have:=skipN_le x t;simp;omega
  omega
theorem skipN_is {x:Int} :∀ {L:List Ltr} {n:Nat},n<=L.length->(∀i l,i<n->L[i]? =some l->x<l.1)->(∀l,L[n]? =some l->¬x<l.1)->skipN x L=n
 | [],n,hn,_,_=>by simp at hn;simp [skipN,hn]
 | g::t,0,_,_,h2=>by
  unfold skipN
  rw [if_neg (h2 g rfl)]
 | g::t,n+1,hn,h1,h2=>by
  unfold skipN
  rw [if_pos (h1 0 g zj rfl),skipN_is (n:=n) ql (fun i l hi e=>h1 (i+1) l zj yr) (fun l e=>h2 l yr)]
theorem laid_at (x:Ltr):∀L,laid x L=L.take (skipN x.1 L)++x::L.drop (skipN x.1 L)
 | []=>rfl
 | h::t=>by
  unfold skipN
  by_cases k:x.1<h.1
  ·rw [laid_yes k,if_pos k,laid_at x t];rfl
  rw [laid_no k,if_neg k];rfl
theorem findL_some {b:Int} :∀ {L:List Ltr} {i:Nat},findL b L=some i->∃l,L[i]? =some l/\l.1=b
 | [],i,h=>by simp [findL] at h
 | g::t,i,h=>by
  unfold findL at h
  split at h
  ·cases h;exact ⟨g,rfl,zq⟩
  cases hf:findL b t with
  | none=>rw [hf] at h;cases h
  | some j=>
   rw [hf] at h
   cases h
   obtain ⟨l,h1,h2⟩:=findL_some hf
   exact ⟨l,xX,h2⟩
theorem findL_none {b:Int} :∀ {L:List Ltr},findL b L=none->∀l∈L,l.1≠b
 | [],_,l,hl=>by simp at hl
 | g::t,h,l,hl=>by
  unfold findL at h
  split at h
  ·cases h
  have hf:findL b t=none:=qO
  rcases vz.1 hl with rfl | hl
  ·assumption
  exact findL_none hf l hl
theorem findL_isSome {b:Int} {L:List Ltr} (h:b∈L.map (·.1)):∃i,findL b L=some i:=by
 cases hf:findL b L with
 | some i=>exact ⟨i,rfl⟩
 | none=>
  obtain ⟨l,hl,e⟩:=vV.1 h
  exact absurd e (findL_none hf l hl)
theorem findL_is {b:Int} :∀ {L:List Ltr} {i:Nat} {l:Ltr},L[i]? =some l->l.1=b->(∀j g,j<i->L[j]? =some g->g.1≠b)->findL b L=some i
 | [],i,l,e,_,_=>jb
 | g::t,0,l,e,h,_=>by
  cases e
  unfold findL
  rw [if_pos h]
 | g::t,i+1,l,e,h,hn=>by
  unfold findL
  rw [if_neg (hn 0 g zj rfl),findL_is (L:=t) (i:=i) yr h (fun j g' hj e'=>hn (j+1) g' zj (by simpa using e'))]
  rfl
theorem putB_at (b:Int) (x:Ltr):∀(L:List Ltr) (i:Nat),findL b L=some i->putB b x L=L.take (i+1+skipN x.1 (L.drop (i+1)))++x::L.drop (i+1+skipN x.1 (L.drop (i+1)))
 | [],i,h=>by simp [findL] at h
 | g::t,i,h=>by
  unfold findL at h
  by_cases k:g.1=b
  ·rw [if_pos k] at h
   cases h
   have e:0+1+skipN x.1 ((g::t).drop (0+1))=skipN x.1 t+1:=by show 0+1+skipN x.1 t=_;omega
   rw [putB_yes k,laid_at x t,e]
   rfl
  rw [if_neg k] at h
  cases hf:findL b t with
  | none=>rw [hf] at h;cases h
  | some j=>
   rw [hf] at h
   cases h
   have e:j+1+1+skipN x.1 ((g::t).drop (j+1+1))=j+1+skipN x.1 (t.drop (j+1))+1:=by show j+1+1+skipN x.1 (t.drop (j+1))=_;omega
   rw [putB_no k,putB_at b x t j hf,e]
   rfl
def placeL (b id:Int) (L:List Ltr):Nat:=if b=0 then skipN id L else match findL b L with
 | none=>0
 | some i=>i+1+skipN id (L.drop (i+1))
theorem put_at {b:Int} {x:Ltr} {L:List Ltr} (h:b=0\/b∈L.map (·.1)):placeL b x.1 L<=L.length/\put b x L=L.take (placeL b x.1 L)++x::L.drop (placeL b x.1 L):=by
 unfold put placeL
 by_cases h0:b=0
 ·rw [if_pos h0,if_pos h0]
  exact ⟨skipN_le _ _,laid_at x L⟩
 rw [if_neg h0,if_neg h0]
 obtain ⟨i,hi⟩:=findL_isSome (h.resolve_left h0)
 rw [hi]
 obtain ⟨l,hl,_⟩:=findL_some hi
 have h1:=(vi.1 hl).1
 have h2:=skipN_le x.1 (L.drop (i+1))
 rw [ua] at h2
 exact ⟨zR,putB_at b x L i hi⟩
theorem put_perm {b:Int} {x:Ltr} {L:List Ltr} (h:b=0\/b∈L.map (·.1)):(put b x L).Perm (x::L):=by
 rw [(put_at h).2]
 refine List.perm_middle.trans ?_
 rw [vX]
theorem put_len {b:Int} {x:Ltr} {L:List Ltr} (h:b=0\/b∈L.map (·.1)):(put b x L).length=L.length+1:=by rw [(put_perm h).length_eq];rfl
theorem put_ids {b:Int} {x:Ltr} {L:List Ltr} (h:b=0\/b∈L.map (·.1)):((put b x L).map (·.1)).Perm (x.1::L.map (·.1)):=(put_perm h).map _
def gone (id:Int) (L:List Ltr):List Ltr:=L.map fun l=>if l.1=id then (l.1,l.2.1,true) else l
def seenOf (L:List Ltr):List Ltr:=L.filter fun l=> !l.2.2
end
section
def IdxIs (p:Ltr->Bool) (zs:List Ltr) (r:Int):Prop:=
 (r= -1/\∀l∈zs,p l=false)\/∃(i:Nat) (l:Ltr),r=(i:Int)/\zs[i]? =some l/\p l=true/\∀j g,j<i->zs[j]? =some g->p g=false
def findI (b:Int) (L:List Ltr):Int:=match findL b L with
 | none=> -1
 | some i=>(i:Int)
theorem findI_is {b:Int} {L:List Ltr} (h:IdxIs (fun l=>decide (l.1=b)) L r):r=findI b L:=by
 unfold findI
 rcases h with ⟨rfl,h⟩ | ⟨i,l,rfl,hl,hp,hn⟩
 ·cases hf:findL b L with
  | none=>rfl
  | some i=>
   obtain ⟨l,h1,h2⟩:=findL_some hf
   have:=h l (vx h1)
   simp [h2] at this
 rw [findL_is hl (by simpa using hp) (fun j g hj hg=>by simpa using hn j g hj hg)]
theorem findI_neg {b:Int} {L:List Ltr} (h:b∉L.map (·.1)):findI b L= -1:=by
 unfold findI
 cases hf:findL b L with
 | none=>rfl
 | some i=>
  obtain ⟨l,h1,h2⟩:=findL_some hf
  exact absurd (vV.2 ⟨l,vx h1,h2⟩) h
theorem findI_pos {b:Int} {L:List Ltr} (h:b∈L.map (·.1)):∃i:Nat,findI b L=(i:Int)/\findL b L=some i/\i<L.length:=by
 obtain ⟨i,hi⟩:=findL_isSome h
 obtain ⟨l,h1,_⟩:=findL_some hi
 exact ⟨i,by unfold findI;rw [hi],hi,(vi.1 h1).1⟩
theorem skip_is {id:Int} {L:List Ltr} (hn:id∉L.map (·.1)) (h:IdxIs (fun l=>decide (l.1<id)) L r):(r= -1/\skipN id L=L.length)\/r=(skipN id L:Int):=by
 have hne:∀l∈L,l.1≠id:=fun l hl e=>hn (vV.2 ⟨l,hl,e⟩)
 rcases h with ⟨rfl,h⟩ | ⟨i,l,rfl,hl,hp,hq⟩
 ·refine .inl ⟨rfl,skipN_is zg (fun i l _ e=> ?_) (fun l e=>jb)⟩
  have h1:=h l (vx e)
  have h2:=hne l (vx e)
  simp at h1
  omega
 right
 rw [skipN_is (n:=i) (ZB (vi.1 hl).1) (fun j g hj e=> ?_) (fun g e=> ?_)]
 ·have h1:=hq j g hj e
  have h2:=hne g (vx e)
  simp at h1
  omega
 rw [hl] at e
 cases e
 simp at hp
 omega
def bare (l:Ltr):Ltr:=if l.2.2 then (l.1,0,true) else l
theorem set_ids {L:List Ltr} {l:Ltr} (h:L[i]? =some l) (c:Nat) (g:Bool):(L.set i (l.1,c,g)).map (·.1)=L.map (·.1):=by
 rw [List.map_set]
 apply List.ext_getElem?
 intro j
 by_cases e:j=i
 ·subst e
  have hl:=(vi.1 h).1
  rw [ZC yY]
  simp [h]
 rw [List.getElem?_set_ne zj]
theorem put_nodup {b:Int} {x:Ltr} {L:List Ltr} (h:b=0\/b∈L.map (·.1)) (hn:(L.map (·.1)).Nodup) (hx:x.1∉L.map (·.1)):((put b x L).map (·.1)).Nodup:=by
 rw [(put_ids h).nodup_iff]
 exact List.nodup_cons.2 ⟨hx,hn⟩
end
section
abbrev Plc:=Int×Int×ByteArray
abbrev Sta:=Int->Option Plc
abbrev Mov:=(Int×Int)×Plc
def zeroP:Plc:=(0,0,⟨#[]⟩)
def noSta:Sta:=fun _=>none
def insF (f:Sta):Nat->Int->Int->Bool
 | 0,_,_=>false
 | n+1,node,of=>match f node with
  | none=>false
  | some p=>decide (p.2.1=of) ||insF f n p.2.1 of
def Ins (f:Sta) (node of:Int):Prop:=∃n,insF f n node of=true
theorem insF_none {f:Sta} {node:Int} (h:f node=none) (n:Nat) (of:Int):insF f n node of=false:=by
 cases n<;>simp [insF,h]
theorem insF_some {f:Sta} {node:Int} {p:Plc} (h:f node=some p) (n:Nat) (of:Int):insF f (n+1) node of=(decide (p.2.1=of) ||insF f n p.2.1 of):=by
 simp [insF,h]
theorem ins_none {f:Sta} {node of:Int} (h:f node=none):¬Ins f node of:=by
 rintro ⟨n,hn⟩
 rw [insF_none h] at hn
 cases hn
theorem ins_some {f:Sta} {node of:Int} {p:Plc} (h:f node=some p):Ins f node of↔p.2.1=of\/Ins f p.2.1 of:=by
 constructor
 ·rintro ⟨n,hn⟩
  cases n with
  | zero=>simp [insF] at hn
  | succ n=>
   rw [insF_some h,Bool.or_eq_true] at hn
   exact hn.imp zm (fun e=>⟨n,e⟩)
 rintro (e | ⟨n,hn⟩)
 ·exact ⟨1,by rw [insF_some h];simp [e]⟩
 exact ⟨n+1,by rw [insF_some h,hn];simp⟩
def Ranked (f:Sta) (d:Int->Nat):Prop:=∀k p,f k=some p->d p.2.1<d k
theorem ins_up {f:Sta} {y:Int} {p:Plc} (h:f x=some p) (hy:p.2.1=y\/Ins f p.2.1 y):Ins f x y:=(ins_some h).2 hy
def upd (f:Sta) (k:Int) (v:Option Plc):Sta:=fun x=>if x=k then v else f x
theorem upd_same (f:Sta) (k:Int) (v:Option Plc):upd f k v k=v:=by simp [upd]
theorem upd_other {f:Sta} {v:Option Plc} (h:x≠k):upd f k v x=f x:=by simp [upd,h]
structure FineP (p:Plc):Prop where
 ne:p.1≠0
 lo:0<=p.1
 hi:p.1<2^62
 lo':0<=p.2.1
 hi':p.2.1<2^62
 sz:p.2.2.size<=60
theorem FineP.ne_zero {p:Plc} (h:FineP p):p≠zeroP:=fun e=>h.ne xP
structure Good (f:Sta):Prop where
 rank:∃d,Ranked f d
 key:∀k p,f k=some p->p.1=k
 fine:∀k p,f k=some p->FineP p
theorem good_no:Good noSta:=⟨⟨fun _=>0,fun k p h=>by simp [noSta] at h⟩,fun k p h=>by simp [noSta] at h,fun k p h=>by simp [noSta] at h⟩
def Idle (f:Sta) (p:Plc):Prop:=p.1=p.2.1\/Ins f p.2.1 p.1
def step [∀(f:Sta) (p:Plc),Decidable (Idle f p)] (f:Sta) (m:Mov):Sta:=if Idle f m.2 then f else upd f m.2.1 (some m.2)
open scoped Classical
theorem step_idle {f:Sta} {m:Mov} (h:Idle f m.2):step f m=f:=by unfold step;rw [if_pos h]
theorem step_goes {f:Sta} {m:Mov} (h:¬Idle f m.2):step f m=upd f m.2.1 (some m.2):=by unfold step;rw [if_neg h]
theorem step_other {f:Sta} {m:Mov} (h:x≠m.2.1):step f m x=f x:=by
 by_cases hi:Idle f m.2
 ·rw [step_idle hi]
 rw [step_goes hi,upd_other h]
theorem good_step {f:Sta} {m:Mov} (G:Good f) (hm:FineP m.2):Good (step f m):=by
 by_cases hi:Idle f m.2
 ·rw [step_idle hi];exact G
 rw [step_goes hi]
 obtain ⟨s,c,q,nm⟩:=m
 dsimp only at hi hm |-
 have hcq:c≠q:=fun e=>hi (.inl e)
 have hqc:¬Ins f q c:=fun e=>hi (.inr e)
 refine ⟨?_,fun k p h=> ?_,fun k p h=> ?_⟩
 ·obtain ⟨d,hd⟩:=G.rank
  classical
  refine ⟨fun x=>if x=c\/Ins f x c then d x+d q+1 else d x,fun k p h=> ?_⟩
  by_cases hk:k=c
  ·subst hk
   rw [upd_same] at h
   cases h
   dsimp only
   rw [if_neg (fun e=>e.elim (fun e=>hcq e.symm) hqc),if_pos (.inl rfl)]
   omega
  rw [upd_other hk] at h
  have h1:=hd k p h
  dsimp only
  by_cases hp:p.2.1=c\/Ins f p.2.1 c
  ·rw [if_pos hp,if_pos (.inr (ins_up h hp))]
   omega
  rw [if_neg hp]
  split<;>omega
 ·by_cases hk:k=c
  ·subst hk;rw [upd_same] at h;cases h;rfl
  rw [upd_other hk] at h;exact G.key k p h
 by_cases hk:k=c
 ·subst hk;rw [upd_same] at h;cases h;exact hm
 rw [upd_other hk] at h;exact G.fine k p h
def undo (f:Sta) (node:Int) (fr:Plc):Sta:=upd f node (if fr=zeroP then none else some fr)
theorem undo_step {f:Sta} {m:Mov} (G:Good f):undo (step f m) m.2.1 ((f m.2.1).getD zeroP)=f:=by
 funext x
 unfold undo
 by_cases hx:x=m.2.1
 ·subst hx
  rw [upd_same]
  cases h:f m.2.1 with
  | none=>simp
  | some p=>
   rw [Zy,if_neg (G.fine _ p h).ne_zero]
 rw [upd_other hx,step_other hx]
def foldS [∀(f:Sta) (p:Plc),Decidable (Idle f p)] (f:Sta) (ms:List Mov):Sta:=ms.foldl step f
theorem foldS_snoc (f:Sta) (ms:List Mov) (m:Mov):foldS f (ms++ [m])=step (foldS f ms) m:=by simp [foldS]
theorem good_fold:∀(ms:List Mov) (f:Sta),Good f->(∀m∈ms,FineP m.2)->Good (foldS f ms)
 | [],_,G,_=>G
 | m::r,f,G,h=>good_fold r (step f m) (good_step G (h m zm)) (fun x hx=>h x jh)
def madeBy [∀(f:Sta) (p:Plc),Decidable (Idle f p)] (ms:List Mov):Sta:=foldS noSta ms
theorem good_made {ms:List Mov} (h:∀m∈ms,FineP m.2):Good (madeBy ms):=good_fold ms _ good_no h
theorem made_snoc (ms:List Mov) (m:Mov):madeBy (ms++ [m])=step (madeBy ms) m:=foldS_snoc _ _ _
theorem made_take {ms:List Mov} {m:Mov} (h:ms[i]? =some m):madeBy (ms.take (i+1))=step (madeBy (ms.take i)) m:=by
 rw [ut,h]
 exact made_snoc _ _
def fromAt [∀(f:Sta) (p:Plc),Decidable (Idle f p)] (ms:List Mov) (i:Nat):Plc:=match ms[i]? with
 | none=>zeroP
 | some m=>(madeBy (ms.take i) m.2.1).getD zeroP
def SLt (a b:Int×Int):Prop:=a.1<b.1\/(a.1=b.1/\a.2<b.2)
theorem slt_irrefl :¬SLt a a:=by unfold SLt;omega
theorem slt_trans {b c:Int×Int} (h:SLt a b) (k:SLt b c):SLt a c:=by unfold SLt at*;omega
theorem slt_total {b:Int×Int} (h:a≠b) (k:¬SLt a b):SLt b a:=by
 obtain ⟨a1,a2⟩:=a
 obtain ⟨b1,b2⟩:=b
 have:¬(a1=b1/\a2=b2):=fun e=>h (by rw [e.1,e.2])
 unfold SLt at*
 dsimp only at*
 omega
def ByStamp (ms:List Mov):Prop:=ms.Pairwise (fun a b=>SLt a.1 b.1)
def insAt (ms:List Mov) (i:Nat) (m:Mov):List Mov:=ms.take i++m::ms.drop i
theorem insAt_perm (ms:List Mov) (i:Nat) (m:Mov):(insAt ms i m).Perm (m::ms):=by
 unfold insAt
 have h1:(ms.take i++m::ms.drop i).Perm (m::(ms.take i++ms.drop i)):=List.perm_middle
 rwa [vX] at h1
theorem insAt_length (ms:List Mov) (i:Nat) (m:Mov):(insAt ms i m).length=ms.length+1:=by
 rw [(insAt_perm ms i m).length_eq];rfl
theorem insAt_by {ms:List Mov} {m:Mov} (h:ByStamp ms) (h1:∀x∈ms.take i,SLt x.1 m.1) (h2:∀x∈ms.drop i,SLt m.1 x.1):ByStamp (insAt ms i m):=by
 unfold ByStamp insAt
 rw [Za]
 refine ⟨h.sublist (List.take_sublist _ _),uv.2 ⟨h2,h.sublist (List.drop_sublist _ _)⟩,fun a ha b hb=> ?_⟩
 rcases vz.1 hb with rfl | hb
 ·exact h1 a ha
 exact slt_trans (h1 a ha) (h2 b hb)
theorem insAt_take {ms:List Mov} {m:Mov} (hi:i<=ms.length):(insAt ms i m).take i=ms.take i:=by
 unfold insAt
 rw [vZ zl,Zr,Nat.min_self]
theorem byStamp_unique:∀ {l l':List Mov},l.Perm l'->ByStamp l->ByStamp l'->l=l'
 | [],l',hp,_,_=>by have:=hp.length_eq;cases l' with | nil=>rfl | cons _ _=>simp at this
 | a::r,[],hp,_,_=>by have:=hp.length_eq;simp at this
 | a::r,b::r',hp,h,h'=>by
  obtain ⟨h1,h2⟩:=uv.1 h
  obtain ⟨h1',h2'⟩:=uv.1 h'
  have e:a=b:=by
   rcases vz.1 (hp.mem_iff.1 (vW (a:=a) (l:=r))) with e | ha
   ·exact e
   rcases vz.1 (hp.mem_iff.2 (vW (a:=b) (l:=r'))) with e | hb
   ·exact e.symm
   exact absurd (slt_trans (h1 b hb) (h1' a ha)) slt_irrefl
  subst e
  rw [byStamp_unique (List.perm_cons a |>.1 hp) h2 h2']
structure IsPlaces (f:Sta) (L:List Plc):Prop where
 rise:L.Pairwise (fun a b=>a.1<b.1)
 mem:∀p,p∈L↔f p.1=some p
theorem places_unique:∀ {L L':List Plc},L.Pairwise (fun a b=>a.1<b.1)->L'.Pairwise (fun a b=>a.1<b.1)->(∀p,p∈L↔p∈L')->L=L'
 | [],[],_,_,_=>rfl
 | [],b::r',_,_,h=>by have:=(h b).2 zm;simp at this
 | a::r,[],_,_,h=>by have:=(h a).1 zm;simp at this
 | a::r,b::r',hl,hl',h=>by
  obtain ⟨h1,h2⟩:=uv.1 hl
  obtain ⟨h1',h2'⟩:=uv.1 hl'
  have e:a=b:=by
   rcases vz.1 ((h a).1 zm) with e | ha
   ·exact e
   rcases vz.1 ((h b).2 zm) with e | hb
   ·exact e.symm
   have x:=h1 b hb;have y:=h1' a ha;omega
  subst e
  rw [places_unique h2 h2' (fun p=> ?_)]
  constructor
  ·intro hp
   rcases vz.1 ((h p).1 (by simp [hp])) with e | hp'
   ·subst e;have:=h1 p hp;omega
   exact hp'
  intro hp
  rcases vz.1 ((h p).2 (by simp [hp])) with e | hp'
  ·subst e;have:=h1' p hp;omega
  exact hp'
theorem IsPlaces.unique {f:Sta} {L L':List Plc} (h:IsPlaces f L) (h':IsPlaces f L'):L=L':=
 places_unique h.rise h'.rise (fun p=>(h.mem p).trans (h'.mem p).symm)
end
section
open Go Go.Maps
def cellsP (p:Plc):List Value:=[.int .i64 p.1,.int .i64 p.2.1,.string p.2.2]
def encP (p:Plc):Value:=.agg #[.int .i64 p.1,.int .i64 p.2.1,.string p.2.2]
theorem encP_inj {p q:Plc} (h:encP p=encP q):p=q:=by
 obtain ⟨a,b,s⟩:=p
 obtain ⟨a',b',s'⟩:=q
 simp [encP] at h
 obtain ⟨rfl,rfl,rfl⟩:=h
 rfl
def dat (p:Plc):DataW Unit:=.agg [.lit (.int .i64 p.1),.lit (.int .i64 p.2.1),.lit (.string p.2.2.data.toList)]
theorem dat_inj {p q:Plc} (h:dat p=dat q):p=q:=by
 obtain ⟨a,b,⟨⟨s⟩⟩⟩:=p
 obtain ⟨a',b',⟨⟨s'⟩⟩⟩:=q
 simp [dat] at h
 obtain ⟨rfl,rfl,rfl⟩:=h
 rfl
def plcL (l:List Value):Option (DataW Unit×List MemPlace):=match l with
 | [.int .i64 a,.int .i64 b,.string s]=>some (dat (a,b,s),[])
 | _=>none
def plcR (v:Value):Option (DataW Unit×List MemPlace):=match v with
 | .agg cs=>plcL cs.toList
 | _=>none
theorem plcR_mk (p:Plc):plcR (encP p)=some (dat p,[]):=rfl
theorem plcL_inv {l:List Value} (h:plcL l=some z):∃p:Plc,l= [.int .i64 p.1,.int .i64 p.2.1,.string p.2.2]/\z=(dat p,[]):=by
 unfold plcL at h
 split at h
 ·rename_i a b s
  cases h
  exact ⟨(a,b,s),rfl,rfl⟩
 cases h
theorem plcR_inv (h:plcR v=some z):∃p,v=encP p/\z=(dat p,[]):=by
 unfold plcR at h
 split at h
 ·rename_i cs
  obtain ⟨p,e,rfl⟩:=plcL_inv h
  refine ⟨p,?_,rfl⟩
  unfold encP
  rw [<-e]
 cases h
def Wf (k:Int):Prop:=(Lit.int .i64 k).wf=true
theorem wf_of (h0: -2^63<=k) (h1:k<2^63):Wf k:=by
 unfold Wf
 have e1:IntKind.i64.min= -2^63:=zt
 have e2:IntKind.i64.max=2^63 - 1:=zt
 simp only [Lit.wf,e1,e2,uQ,decide_eq_true_eq]
 omega
theorem wf_fine {p:Plc} (h:FineP p):Wf p.1/\Wf p.2.1:=by
 have h1:=h.lo;have h2:=h.hi;have h3:=h.lo';have h4:=h.hi'
 exact ⟨wf_of zj zj,wf_of zj zj⟩
theorem wf_key {f:Sta} (G:Good f) {p:Plc} (h:f k=some p):Wf k:=by
 have:=(wf_fine (G.fine k p h)).1
 rwa [G.key k p h] at this
def ReadsAs (D:DataW Unit) (f:Sta):Prop:=∀k,Wf k->match f k with
 | none=>has D (.int .i64 k)=false
 | some p=>∀z,D.atKey (.int .i64 k) z=dat p
theorem ReadsAs.none {f:Sta} (h:ReadsAs D f) (hk:Wf k) (hf:f k=none):has D (.int .i64 k)=false:=by
 have:=h k hk;rw [hf] at this;exact this
theorem ReadsAs.some {f:Sta} (h:ReadsAs D f) (hk:Wf k) {p:Plc} (hf:f k=some p) (z:DataW Unit):D.atKey (.int .i64 k) z=dat p:=by
 have:=h k hk;rw [hf] at this;exact this z
theorem ReadsAs.has {D:DataW Unit} {f:Sta} (h:ReadsAs D f) {k:Int} (hk:Wf k):Maps.has D (.int .i64 k)=(f k).isSome:=by
 cases hf:f k with
 | none=>rw [h.none hk hf];rfl
 | some p=>rw [has_true_of_atKey (h.some hk hf)];rfl
theorem ReadsAs.at {f:Sta} (h:ReadsAs D f) (hk:Wf k):D.atKey (.int .i64 k) (dat zeroP)=dat ((f k).getD zeroP):=by
 cases hf:f k with
 | none=>rw [atKey_of_not_has (h.none hk hf)];rfl
 | some p=>rw [h.some hk hf];rfl
theorem lit_ne {a b:Int} (h:a≠b):Lit.int .i64 a≠Lit.int .i64 b:=fun e=>h (by injection e)
section
variable {P:Program} {K E T:TypeId}
def MapAt (P:Program) (K:TypeId) (w:World) (b n:Nat) (f:Sta):Prop:=∃D,w.ownsMap P K plcR b n D/\ReadsAs D f
theorem MapAt.lt {w:World} {b n:Nat} {f:Sta} (h:MapAt P K w b n f):b<w.heap.size:=by
 obtain ⟨D,h,_⟩:=h;exact h.lt
theorem MapAt.mono {w:World} {b n n':Nat} {f:Sta} (h:MapAt P K w b n f) (hn:n<=n'):MapAt P K w b n' f:=by
 obtain ⟨D,h,r⟩:=h;exact ⟨D,h.mono hn,r⟩
theorem MapAt.same {f:Sta} (h:MapAt P K w b n f) (e:w'.heap[b]? =w.heap[b]?):MapAt P K w' b n f:=by
 obtain ⟨D,⟨es,clock,hb,F⟩,r⟩:=h
 exact ⟨D,⟨es,clock,e.trans hb,F⟩,r⟩
theorem MapAt.block {f:Sta} (h:MapAt P K w b n f):∃es clock,w.heap[b]? =some (.map es clock):=by
 obtain ⟨D,⟨es,clock,hb,F⟩,r⟩:=h
 exact ⟨es,clock,hb⟩
theorem mapAt_made (w:World):MapAt P K (w.alloc (.map #[] 0)) w.heap.size 0 noSta:=
 ⟨_,World.ownsMap_made w P K plcR,fun _ _=>rfl⟩
theorem MapAt.look {f:Sta} (h:MapAt P K w b n f) (hK:P.underlying K=some (.int .i64)) (hT:P.underlying T=some (.map K E)) (hz:(zeroValue E).run P w= .ok (encP zeroP) w) (hk:Wf k):
  (Instr.lookup T (.map (some b)) (.int .i64 k) true).run P w= .ok (.tuple #[encP ((f k).getD zeroP),.bool (f k).isSome]) w:=by
 obtain ⟨D,h,r⟩:=h
 obtain ⟨v,ps,hrun,hv⟩:=h.look_ok (int_keyed hK) hT hz (plcR_mk zeroP) (keyOf_int_mk hK hk)
 obtain ⟨p,rfl,hp⟩:=plcR_inv hv
 rw [r.at hk,Prod.mk.injEq] at hp
 rw [hrun,r.has hk,dat_inj hp.1]
theorem MapAt.look1 {f:Sta} (h:MapAt P K w b n f) (hK:P.underlying K=some (.int .i64)) (hT:P.underlying T=some (.map K E)) (hz:(zeroValue E).run P w= .ok (encP zeroP) w) (hk:Wf k):
  (Instr.lookup T (.map (some b)) (.int .i64 k) false).run P w= .ok (encP ((f k).getD zeroP)) w:=by
 obtain ⟨D,h,r⟩:=h
 obtain ⟨v,ps,hrun,hv⟩:=h.lookup (int_keyed hK) hT hz (plcR_mk zeroP) (keyOf_int_mk hK hk)
 obtain ⟨p,rfl,hp⟩:=plcR_inv hv
 rw [r.at hk,Prod.mk.injEq] at hp
 rw [hrun,dat_inj hp.1]
theorem reads_put {f:Sta} (h:ReadsAs D f) (hD:IsMap D) (k:Int) (p:Plc):ReadsAs (D.put (.int .i64 k) (dat p)) (upd f k (some p)):=by
 intro x hx
 by_cases e:x=k
 ·subst e
  rw [upd_same]
  exact fun z=>atKey_put_same hD (show WideAt.IsKeyLit (.int .i64 x) from trivial) _ _
 rw [upd_other e]
 cases hf:f x with
 | none=>rw [has_put_other (lit_ne e)];exact h.none hx hf
 | some q=>intro z;rw [atKey_put_other (lit_ne e)];exact h.some hx hf z
theorem reads_del {f:Sta} (h:ReadsAs D f) (k:Int):ReadsAs (D.del (.int .i64 k)) (upd f k none):=by
 intro x hx
 by_cases e:x=k
 ·subst e
  rw [upd_same]
  exact has_del_same
 rw [upd_other e]
 cases hf:f x with
 | none=>rw [has_del_other (lit_ne e)];exact h.none hx hf
 | some q=>intro z;rw [atKey_del_other (lit_ne e)];exact h.some hx hf z
theorem MapAt.store {w:World} {b n:Nat} {f:Sta} (h:MapAt P K w b n f) (hK:P.underlying K=some (.int .i64)) (hT:P.underlying T=some (.map K E)) (hn:n<maxLen) {k:Int} (hk:Wf k) (p:Plc):
  ∃w',(Instr.mapUpdate T (.map (some b)) (.int .i64 k) (encP p)).run P w= .ok () w'/\MapAt P K w' b (n+1) (upd f k (some p))/\w.mapTurned w' b:=by
 obtain ⟨D,h,r⟩:=h
 obtain ⟨w',hrun,h',ht⟩:=h.store (int_keyed hK) hT hn (keyOf_int_mk hK hk) (plcR_mk p)
 exact ⟨w',hrun,⟨_,h',reads_put r h.isMap k p⟩,ht⟩
theorem MapAt.drop {w:World} {b n:Nat} {f:Sta} (h:MapAt P K w b n f) (hK:P.underlying K=some (.int .i64)) (hT:P.underlying T=some (.map K E)) {k:Int} (hk:Wf k) (ty:TypeId):
  ∃w',(Builtin.delete_ #[T,K] ty #[.map (some b),.int .i64 k]).run P w= .ok (.tuple #[]) w'/\MapAt P K w' b n (upd f k none)/\w.mapTurned w' b:=by
 obtain ⟨D,h,r⟩:=h
 obtain ⟨w',hrun,h',ht⟩:=h.drop (int_keyed hK) hT (keyOf_int_mk hK hk) ty
 exact ⟨w',hrun,⟨_,h',reads_del r k⟩,ht⟩
end
end
section
open scoped Classical
abbrev Ent:=Mov×Plc
structure LogTo (ms:List Mov) (i:Nat) (L:List Ent):Prop where
 movs:L.map (·.1)=ms
 from_:∀j x,j<i->L[j]? =some x->x.2=fromAt ms j
theorem LogTo.len {ms:List Mov} {L:List Ent} (h:LogTo ms i L):L.length=ms.length:=by rw [<-h.movs];simp
theorem LogTo.mov {ms:List Mov} {L:List Ent} (h:LogTo ms i L) {x:Ent} (hx:L[j]? =some x):ms[j]? =some x.1:=by rw [<-h.movs];simp [hx]
theorem LogTo.mono {ms:List Mov} {L:List Ent} (h:LogTo ms i L) (hj:j<=i):LogTo ms j L:=⟨h.movs,fun k x hk hx=>h.from_ k x zj hx⟩
theorem logTo_nil:LogTo [] 0 []:=⟨rfl,fun _ _ h=>zj⟩
theorem fromAt_some {ms:List Mov} {m:Mov} (h:ms[i]? =some m):fromAt ms i=(madeBy (ms.take i) m.2.1).getD zeroP:=by unfold fromAt;rw [h]
theorem fromAt_congr {ms ms':List Mov} (h:ms.take (i+1)=ms'.take (i+1)):fromAt ms i=fromAt ms' i:=by
 have h1:ms[i]? =ms'[i]? :=by
  have e1:(ms.take (i+1))[i]? =ms[i]? :=by rw [un,if_pos zj]
  have e2:(ms'.take (i+1))[i]? =ms'[i]? :=by rw [un,if_pos zj]
  rw [<-e1,<-e2,h]
 have h2:ms.take i=ms'.take i:=by
  have e1:(ms.take (i+1)).take i=ms.take i:=qU
  have e2:(ms'.take (i+1)).take i=ms'.take i:=qU
  rw [<-e1,<-e2,h]
 unfold fromAt
 rw [h1,h2]
def layIn (L:List Ent) (i:Nat) (x:Ent):List Ent:=L.take i++x::L.drop i
theorem layIn_to {ms:List Mov} {L:List Ent} {m:Mov} (h:LogTo ms ms.length L) (hi:i<=ms.length) (fr:Plc):LogTo (insAt ms i m) i (layIn L i (m,fr)):=by
 refine ⟨?_,fun j x hj hx=> ?_⟩
 ·unfold layIn insAt
  simp [<-h.movs,List.map_take,List.map_drop]
 have hx':L[j]? =some x:=by
  unfold layIn at hx
  rwa [Zd (by simp;have:=h.len;omega),un,if_pos hj] at hx
 rw [h.from_ j x zj hx']
 refine fromAt_congr ?_
 unfold insAt
 rw [vZ zl,Zr]
 congr 1
 omega
theorem set_to {ms:List Mov} {L:List Ent} {x:Ent} (h:LogTo ms i L) (hx:L[i]? =some x):LogTo ms (i+1) (L.set i (x.1,fromAt ms i)):=by
 refine ⟨?_,fun j y hj hy=> ?_⟩
 ·rw [<-h.movs,List.map_set]
  apply List.ext_getElem?
  intro j
  by_cases e:j=i
  ·subst e
   have hl:=(vi.1 hx).1
   rw [ZC yY]
   simp [hx]
  rw [List.getElem?_set_ne zj]
 by_cases e:j=i
 ·subst e
  rw [ZC (vi.1 hx).1] at hy
  cases hy
  rfl
 rw [List.getElem?_set_ne zj] at hy
 exact h.from_ j y zj hy
def Found (ms:List Mov) (s:Int×Int) (i:Nat) (b:Bool):Prop:=
 (b=true/\∃m,ms[i]? =some m/\m.1=s)\/(b=false/\i<=ms.length/\(∀x∈ms.take i,SLt x.1 s)/\∀x∈ms.drop i,SLt s x.1)
def Later (ms:List Mov) (s:Int×Int) (i:Nat):Prop:=∀x∈ms.drop i,SLt s x.1
theorem later_end (ms:List Mov) (s:Int×Int):Later ms s ms.length:=fun x hx=>zO
theorem found_same {ms:List Mov} {m:Mov} (h:ms[i]? =some m) (e:m.1=s):Found ms s i true:=.inl ⟨rfl,m,h,e⟩
theorem found_less {ms:List Mov} {m:Mov} (hb:ByStamp ms) (hl:Later ms s (i+1)) (h:ms[i]? =some m) (e:SLt m.1 s):Found ms s (i+1) false:=by
 have hi:=(vi.1 h).1
 refine .inr ⟨rfl,zj,fun x hx=> ?_,hl⟩
 rw [ut,h] at hx
 rcases vv.1 hx with hx | hx
 ·refine slt_trans ?_ e
  have hp:(ms.take i++ms.drop i).Pairwise (fun a b=>SLt a.1 b.1):=by rw [vX];exact hb
  refine (Za.1 hp).2.2 x hx m ?_
  rw [List.mem_iff_getElem?]
  exact ⟨0,by rw [uw,ui,h]⟩
 simp at hx
 rw [hx];exact e
theorem later_step {ms:List Mov} {m:Mov} (hl:Later ms s (i+1)) (h:ms[i]? =some m) (ne:m.1≠s) (nl:¬SLt m.1 s):Later ms s i:=by
 intro x hx
 have hi:=(vi.1 h)
 rw [uI hi.1] at hx
 rcases vz.1 hx with rfl | hx
 ·rw [hi.2];exact slt_total ne nl
 exact hl x hx
theorem found_first {ms:List Mov} (hl:Later ms s 0):Found ms s 0 false:=.inr ⟨rfl,vD _,fun x hx=>zO,hl⟩
theorem found_new {ms:List Mov} {b:Bool} (h:Found ms s i b) (hn:∀m∈ms,m.1≠s):b=false/\i<=ms.length/\(∀x∈ms.take i,SLt x.1 s)/\∀x∈ms.drop i,SLt s x.1:=by
 rcases h with ⟨_,m,hm,e⟩ | h
 ·exact absurd e (hn m (vx hm))
 exact h
end
section
open Go Go.Maps
abbrev TSta:=Int->Option Nat
def noT:TSta:=fun _=>none
def encT_ (p:Option Nat):Value:=.pointer (p.map fun b=>⟨b,0,none⟩)
def datT (p:Option Nat):DataW Unit:=match p with
 | none=>.agg []
 | some b=>.agg [.lit (.int .i64 (b:Int))]
theorem datT_inj {p q:Option Nat} (h:datT p=datT q):p=q:=by
 cases p<;>cases q<;>simp [datT] at h |-
 omega
def ptrR (v:Value):Option (DataW Unit×List MemPlace):=match v with
 | .pointer none=>some (datT none,[])
 | .pointer (some ⟨b,0,none⟩)=>some (datT (some b),[])
 | _=>none
theorem ptrR_mk (p:Option Nat):ptrR (encT_ p)=some (datT p,[]):=by cases p<;>rfl
theorem ptrR_inv (h:ptrR v=some z):∃p,v=encT_ p/\z=(datT p,[]):=by
 unfold ptrR at h
 split at h
 ·cases h;exact ⟨none,rfl,rfl⟩
 ·cases h;exact ⟨some _,rfl,rfl⟩
 cases h
def ReadsT (D:DataW Unit) (f:TSta):Prop:=∀k,Wf k->match f k with
 | none=>has D (.int .i64 k)=false
 | some p=>∀z,D.atKey (.int .i64 k) z=datT (some p)
theorem ReadsT.gone {f:TSta} (h:ReadsT D f) (hk:Wf k) (hf:f k=none):has D (.int .i64 k)=false:=by
 have:=h k hk;rw [hf] at this;exact this
theorem ReadsT.held {f:TSta} (h:ReadsT D f) (hk:Wf k) {p:Nat} (hf:f k=some p) (z:DataW Unit):D.atKey (.int .i64 k) z=datT (some p):=by
 have:=h k hk;rw [hf] at this;exact this z
theorem ReadsT.has {D:DataW Unit} {f:TSta} (h:ReadsT D f) {k:Int} (hk:Wf k):Maps.has D (.int .i64 k)=(f k).isSome:=by
 cases hf:f k with
 | none=>rw [h.gone hk hf];rfl
 | some p=>rw [has_true_of_atKey (h.held hk hf)];rfl
theorem ReadsT.at {f:TSta} (h:ReadsT D f) (hk:Wf k):D.atKey (.int .i64 k) (datT none)=datT (f k):=by
 cases hf:f k with
 | none=>rw [atKey_of_not_has (h.gone hk hf)]
 | some p=>rw [h.held hk hf]
theorem readsT_put {f:TSta} (h:ReadsT D f) (hD:IsMap D) (k:Int) (p:Nat):ReadsT (D.put (.int .i64 k) (datT (some p))) (fun x=>if x=k then some p else f x):=by
 intro x hx
 dsimp only
 by_cases e:x=k
 ·subst e
  rw [if_pos rfl]
  exact fun z=>atKey_put_same hD (show WideAt.IsKeyLit (.int .i64 x) from trivial) _ _
 rw [if_neg e]
 cases hf:f x with
 | none=>rw [has_put_other (lit_ne e)];exact h.gone hx hf
 | some q=>intro z;rw [atKey_put_other (lit_ne e)];exact h.held hx hf z
def GoodT (f:TSta):Prop:=∀k p,f k=some p->Wf k
structure TMapAt (w:World) (b n:Nat) (f:TSta):Prop where
 reads:∃D,w.ownsMap prog 3 ptrR b n D/\ReadsT D f
 good:GoodT f
theorem TMapAt.lt {w:World} {b n:Nat} {f:TSta} (h:TMapAt w b n f):b<w.heap.size:=by
 obtain ⟨D,h,_⟩:=h.reads;exact h.lt
theorem TMapAt.mono {w:World} {b n n':Nat} {f:TSta} (h:TMapAt w b n f) (hn:n<=n'):TMapAt w b n' f:=by
 obtain ⟨⟨D,h,r⟩,g⟩:=h;exact ⟨⟨D,h.mono hn,r⟩,g⟩
theorem TMapAt.same {f:TSta} (h:TMapAt w b n f) (e:w'.heap[b]? =w.heap[b]?):TMapAt w' b n f:=by
 obtain ⟨⟨D,⟨es,clock,hb,F⟩,r⟩,g⟩:=h
 exact ⟨⟨D,⟨es,clock,e.trans hb,F⟩,r⟩,g⟩
theorem tmapAt_made (w:World):TMapAt (w.alloc (.map #[] 0)) w.heap.size 0 noT:=
 ⟨⟨_,World.ownsMap_made w prog 3 ptrR,fun _ _=>rfl⟩,fun k p h=>yR⟩
theorem zeroPtrL (w:World):(zeroValue 103).run prog w= .ok (encT_ none) w:=zeroValue103 w
theorem TMapAt.look {f:TSta} (h:TMapAt w b n f) (hk:Wf k):
  (Instr.lookup 76 (.map (some b)) (.int .i64 k) true).run prog w= .ok (.tuple #[encT_ (f k),.bool (f k).isSome]) w:=by
 obtain ⟨⟨D,h,r⟩,_⟩:=h
 obtain ⟨v,ps,hrun,hv⟩:=h.look_ok (int_keyed underlying3) underlying76 (zeroPtrL w) (ptrR_mk none) (keyOf_int_mk underlying3 hk)
 obtain ⟨p,rfl,hp⟩:=ptrR_inv hv
 rw [r.at hk,Prod.mk.injEq] at hp
 rw [hrun,r.has hk,datT_inj hp.1]
theorem TMapAt.look1 {f:TSta} (h:TMapAt w b n f) (hk:Wf k):
  (Instr.lookup 76 (.map (some b)) (.int .i64 k) false).run prog w= .ok (encT_ (f k)) w:=by
 obtain ⟨⟨D,h,r⟩,_⟩:=h
 obtain ⟨v,ps,hrun,hv⟩:=h.lookup (int_keyed underlying3) underlying76 (zeroPtrL w) (ptrR_mk none) (keyOf_int_mk underlying3 hk)
 obtain ⟨p,rfl,hp⟩:=ptrR_inv hv
 rw [r.at hk,Prod.mk.injEq] at hp
 rw [hrun,datT_inj hp.1]
theorem TMapAt.store {w:World} {b n:Nat} {f:TSta} (h:TMapAt w b n f) (hn:n<maxLen) {k:Int} (hk:Wf k) (p:Nat):
  ∃w',(Instr.mapUpdate 76 (.map (some b)) (.int .i64 k) (encT_ (some p))).run prog w= .ok () w'/\TMapAt w' b (n+1) (fun x=>if x=k then some p else f x)/\w.mapTurned w' b:=by
 obtain ⟨⟨D,h,r⟩,g⟩:=h
 obtain ⟨w',hrun,h',ht⟩:=h.store (int_keyed underlying3) underlying76 hn (keyOf_int_mk underlying3 hk) (ptrR_mk (some p))
 refine ⟨w',hrun,⟨⟨_,h',readsT_put r h.isMap k p⟩,fun x q hx=> ?_⟩,ht⟩
 split at hx
 ·rename_i e;rw [e];exact hk
 exact g x q hx
end
section
open Go Go.RowKit
structure Keeps (S:Nat->Prop) (w w':World):Prop where
 os:w'.os=w.os
 tape:w'.tape=w.tape
 output:w'.output=w.output
 size:w.heap.size<=w'.heap.size
 block:∀k,k<w.heap.size->¬S k->w'.heap[k]? =w.heap[k]?
theorem Keeps.refl (S:Nat->Prop) (w:World):Keeps S w w:=⟨rfl,rfl,rfl,vm _,fun _ _ _=>rfl⟩
theorem Keeps.trans {S:Nat->Prop} {a b c:World} (h:Keeps S a b) (k:Keeps S b c):Keeps S a c:=
 ⟨k.os.trans h.os,k.tape.trans h.tape,k.output.trans h.output,vr h.size k.size,fun i hi hs=>(k.block i (vJ hi h.size) hs).trans (h.block i hi hs)⟩
theorem Keeps.then {S T:Nat->Prop} {a b c:World} (h:Keeps S a b) (k:Keeps T b c) (hT:∀i,i<a.heap.size->T i->S i):Keeps S a c:=
 ⟨k.os.trans h.os,k.tape.trans h.tape,k.output.trans h.output,vr h.size k.size,fun i hi hs=>(k.block i (vJ hi h.size) (fun ht=>hs (hT i hi ht))).trans (h.block i hi hs)⟩
theorem Keeps.mono {S T:Nat->Prop} (h:Keeps S w w') (hs:∀k,k<w.heap.size->S k->T k):Keeps T w w':=
 ⟨h.os,h.tape,h.output,h.size,fun k hk ht=>h.block k hk (fun e=>ht (hs k hk e))⟩
theorem keeps_of_grown {row:Option Nat} (h:w.grownBy w' row):Keeps (fun k=>some k=row) w w':=
 ⟨h.os,h.tape,h.output,h.size,fun k hk hs=>h.block k hk hs⟩
theorem keeps_of_below (h:Below B w w'):Keeps (fun k=>B<=k) w w':=
 ⟨h.os,h.tape,h.output,h.size,fun k _ hs=>h.block k zj⟩
theorem Keeps.below {S:Nat->Prop} (h:Keeps S w w') (hB:B<=w.heap.size) (hs:∀k,S k->B<=k):Below B w w':=
 ⟨h.os,h.tape,h.output,h.size,fun k hk=>h.block k zj (fun e=>by have:=hs k e;omega)⟩
theorem Keeps.drew {S:Nat->Prop} {w w':World} (h:Keeps S w w'):Keeps S w w'.drew:=⟨h.os,h.tape,h.output,h.size,h.block⟩
theorem Keeps.alloc {S:Nat->Prop} {w w':World} (h:Keeps S w w') (o:Obj):Keeps S w (w'.alloc o):=
 h.then (keeps_of_grown (World.grownBy_alloc w' o none)) (fun _ _ e=>qC)
theorem Keeps.cell {S:Nat->Prop} {w w':World} (h:Keeps S w w') {a:Addr} (ha:a.block<w.heap.size) (hs:¬S a.block):w'.cell? a=w.cell? a:=vI (h.block _ ha hs)
theorem Keeps.frozen {S:Nat->Prop} {w w':World} (h:Keeps S w w') {a:Addr} (ha:a.block<w.heap.size) (hs:¬S a.block):w'.frozen? a=w.frozen? a:=ZD (h.block _ ha hs)
def over (c:Array Value):Nat->List Value->Array Value
 | _,[]=>c
 | o,v::r=>over (c.setIfInBounds o v) (o+1) r
theorem over_size:∀(vs:List Value) (o:Nat) (c:Array Value),(over c o vs).size=c.size
 | [],_,_=>rfl
 | v::r,o,c=>by rw [over,over_size r];simp
theorem over_list:∀(vs A B C:List Value) (c:Array Value),c.toList=A++B++C->B.length=vs.length->(over c A.length vs).toList=A++vs++C
 | [],A,B,C,c,h,hl=>by
  have:B= []:=vM.1 hl
  subst this
  simpa [over] using h
 | v::r,A,[],C,c,h,hl=>by simp at hl
 | v::r,A,b::B,C,c,h,hl=>by
  have ih:=over_list r (A++ [v]) B C (c.setIfInBounds A.length v) (by simp [h]) yY
  rw [over]
  simpa using ih
theorem setCells_heap (b:Nat):∀(vs:List Value) (o:Nat) (w:World) (c:Array Value) (t:TypeId),w.heap[b]? =some (.cells c t (0,0))->(w.setCells b o vs).heap[b]? =some (.cells (over c o vs) t (0,0))
 | [],_,_,_,_,h=>h
 | v::r,o,w,c,t,h=>setCells_heap b r (o+1) _ _ t (heap_setCell_same w b o c t v h)
theorem setCells_other (b:Nat):∀(vs:List Value) (o:Nat) (w:World) (k:Nat),k≠b->(w.setCells b o vs).heap[k]? =w.heap[k]?
 | [],_,_,_,_=>rfl
 | v::r,o,w,k,h=>by rw [World.setCells,setCells_other b r _ _ k h];exact heap_setCell_other w ⟨b,o,none⟩ k v h
theorem setCells_keeps (b:Nat):∀(vs:List Value) (o:Nat) (w:World),Keeps (fun k=>k=b) w (w.setCells b o vs)
 | [],_,w=>Keeps.refl _ w
 | v::r,o,w=>by
  refine Keeps.trans (b:=w.setCell ⟨b,o,none⟩ v) ⟨rfl,rfl,rfl,?_,fun k _ hk=>heap_setCell_other w ⟨b,o,none⟩ k v hk⟩ (setCells_keeps b r (o+1) _)
  simp [World.setCell]
theorem run_copy_k (w:World) (dT sT ty elem:TypeId) (k b o dLen dCap:Nat) (a:Addr) (sLen sCap:Nat) (cs:List Value)
  (hu:P.underlying dT=some (.slice elem)) (hs:(P.info? elem).map (·.size)=some k) (hn:cs.length=Nat.min sLen dLen*k)
  (hsrc:∀j v,cs[j]? =some v->w.cell? (a.add j)=some v) (hc:∀j,j<cs.length->(w.cell? ⟨b,o+j,none⟩).isSome=true) (hf:∀j,j<cs.length->w.frozen? ⟨b,o+j,none⟩=false) (h1:∀v∈cs,v.oneCell'=true):
  (Builtin.copy_ #[dT,sT] ty #[.slice (some ⟨b,o,none⟩) dLen dCap,.slice (some a) sLen sCap]).run P w= .ok (goInt (Nat.min sLen dLen)) (w.setCells b o cs):=by
 have hl:=run_loadCells_list (P:=P) w a cs hsrc
 have hst:=run_storeCells_cells (P:=P) b o cs 0 w (by simpa using hc) (by simpa using hf) h1
 cases hq:P.info? elem with
 | none=>simp [hq] at hs
 | some i=>
  have hi:i.size=k:=by simpa [hq] using hs
  simp only [ui] at hst
  simp [Builtin.copy_,run_underlying hu,Builtin.lenOf,Builtin.firstCells,sizeOf,typeInfo,hq,hi,<-hn,hl,hst]
theorem owns_laidIn {base k:Nat} (h:w.ownsRow base E k (.slice (some ⟨g,0,none⟩) n cap) n xs) (hroom:n+1<=cap) (hi:i<=n) (hv:vs.length=k):
  ((w.setCells g ((i+1)*k) (xs.drop (i*k))).setCells g (i*k) vs).ownsRow base E k (.slice (some ⟨g,0,none⟩) (n+1) cap) (n+1) (xs.take (i*k)++vs++xs.drop (i*k)):=by
 obtain ⟨hl,h2⟩:=h
 rcases h2 with ⟨hc,_⟩ | ⟨g',cap',cur,hc,hb,hg,hn,hm,hs,ht⟩
 ·cases hc
 cases hc
 have hik:i*k<=n*k:=uj k hi
 have hnk:(n+1)*k=n*k+k:=xR
 have hi1:(i+1)*k=i*k+k:=xR
 have hck:(n+1)*k<=cap*k:=uj k hroom
 have hcl:cur.toList.length=cap*k:=by simpa using hs
 have hcur:cur.toList=xs++cur.toList.drop (n*k):=by
  conv=>lhs;rw [<-vX (n*k) cur.toList]
  rw [ht]
 obtain ⟨C,hC⟩:=za (cur.toList.drop (n*k))
 rw [<-hC] at hcur
 have hCl:C.length=cap*k - n*k:=by rw [hC,ua,hcl]
 have hdl:(xs.drop (i*k)).length=n*k - i*k:=by rw [ua,hl]
 have htl:(xs.take (i*k)).length=i*k:=by rw [vP,hl];omega
 have hg1:=setCells_heap g (xs.drop (i*k)) ((i+1)*k) w cur E hg
 have e1:(cur.toList.take ((i+1)*k)).length=(i+1)*k:=by rw [vP,hcl];omega
 have o1:=over_list (xs.drop (i*k)) (cur.toList.take ((i+1)*k)) ((cur.toList.drop ((i+1)*k)).take (n*k - i*k)) ((cur.toList.drop ((i+1)*k)).drop (n*k - i*k)) cur
  (by rw [vR,vX,vX]) (by rw [vP,ua,hdl,hcl];omega)
 rw [e1] at o1
 obtain ⟨c1,hc1⟩:=za (over cur ((i+1)*k) (xs.drop (i*k)))
 rw [<-hc1] at o1 hg1
 have hs1:c1.size=cap*k:=by rw [hc1,over_size,hs]
 have hg2:=setCells_heap g vs (i*k) _ c1 E hg1
 have hA:cur.toList.take ((i+1)*k)=xs.take (i*k)++(cur.toList.drop (i*k)).take k:=by
  rw [hi1,List.take_add]
  congr 1
  rw [hcur,vZ zj]
 have o2:=over_list vs (xs.take (i*k)) ((cur.toList.drop (i*k)).take k) (xs.drop (i*k)++(cur.toList.drop ((i+1)*k)).drop (n*k - i*k)) c1
  (by rw [o1,hA];simp [vR]) (by rw [vP,ua,hcl,hv];omega)
 rw [htl] at o2
 refine ⟨?_,.inr ⟨g,cap,_,rfl,hb,hg2,hroom,hm,by rw [over_size,hs1],?_⟩⟩
 ·rw [vw,vw,htl,hv,hdl];omega
 rw [o2,<-vR,vZ xj,vG xj]
theorem owns_newIn {base k G:Nat} {Z:List Value} {row:Array Value} (hg:w.heap[g]? =some (.cells row E (0,0))) (hrow:row.toList=xs.take (i*k)++Z) (hs:row.size=G*k)
  (hb:base<=g) (hroom:n+1<=G) (hm:G<=maxLen) (hi:i<=n) (hl:xs.length=n*k) (hv:vs.length=k):
  ((w.setCells g (i*k) vs).setCells g ((i+1)*k) (xs.drop (i*k))).ownsRow base E k (.slice (some ⟨g,0,none⟩) (n+1) G) (n+1) (xs.take (i*k)++vs++xs.drop (i*k)):=by
 have hik:i*k<=n*k:=uj k hi
 have hnk:(n+1)*k=n*k+k:=xR
 have hi1:(i+1)*k=i*k+k:=xR
 have hck:(n+1)*k<=G*k:=uj k hroom
 have hdl:(xs.drop (i*k)).length=n*k - i*k:=by rw [ua,hl]
 have htl:(xs.take (i*k)).length=i*k:=by rw [vP,hl];omega
 have hZl:Z.length=G*k - i*k:=by
  have:row.toList.length=G*k:=by simpa using hs
  rw [hrow,vw,htl] at this
  omega
 have hg1:=setCells_heap g vs (i*k) w row E hg
 have o1:=over_list vs (xs.take (i*k)) (Z.take k) (Z.drop k) row (by rw [hrow,vR,vX]) (by rw [vP,hZl,hv];omega)
 rw [htl] at o1
 obtain ⟨c1,hc1⟩:=za (over row (i*k) vs)
 rw [<-hc1] at o1 hg1
 have hs1:c1.size=G*k:=by rw [hc1,over_size,hs]
 have hg2:=setCells_heap g (xs.drop (i*k)) ((i+1)*k) _ c1 E hg1
 have hal:(xs.take (i*k)++vs).length=(i+1)*k:=by rw [vw,htl,hv,hi1]
 have o2:=over_list (xs.drop (i*k)) (xs.take (i*k)++vs) ((Z.drop k).take (n*k - i*k)) ((Z.drop k).drop (n*k - i*k)) c1
  (by rw [o1];simp only [vR,vX]) (by rw [vP,ua,hZl,hdl];omega)
 rw [hal] at o2
 refine ⟨?_,.inr ⟨g,G,_,rfl,hb,hg2,hroom,hm,by rw [over_size,hs1],?_⟩⟩
 ·rw [vw,hal,hdl];omega
 rw [o2,vZ jP,vG jP]
end
section
open Go
section
variable {α:Type} {enc:α→List Value} {k:Nat}
def flat (enc:α->List Value) (L:List α):List Value:=L.flatMap enc
theorem flat_cons (x:α) (L:List α):flat enc (x::L)=enc x++flat enc L:=rfl
theorem flat_append (L M:List α):flat enc (L++M)=flat enc L++flat enc M:=by simp [flat]
theorem flat_len (hk:∀x,(enc x).length=k):∀L:List α,(flat enc L).length=L.length*k
 | []=>by simp [flat]
 | x::L=>by rw [flat_cons,vw,hk,flat_len hk L,vH,Nat.succ_mul];omega
theorem flat_take (hk:∀x,(enc x).length=k) (L:List α) (i:Nat) (hi:i<=L.length):(flat enc L).take (i*k)=flat enc (L.take i):=by
 conv=>lhs;rw [<-vX i L]
 rw [flat_append,vZ yE,vG yE]
theorem flat_drop (hk:∀x,(enc x).length=k) (L:List α) (i:Nat) (hi:i<=L.length):(flat enc L).drop (i*k)=flat enc (L.drop i):=by
 conv=>lhs;rw [<-vX i L]
 rw [flat_append,List.drop_append_of_le_length yE,uT yE]
 rfl
theorem flat_get (hk:∀x,(enc x).length=k) {L:List α} {c:Nat} {x:α} (hx:L[i]? =some x) (hc:c<k):(flat enc L)[i*k+c]? =(enc x)[c]? :=by
 obtain ⟨hil,hie⟩:=vi.1 hx
 have h1:(flat enc L)[i*k+c]? =((flat enc L).drop (i*k))[c]? :=by rw [uw]
 rw [h1,flat_drop hk L i zj,uI hil,hie,flat_cons,Zd (by rw [hk];exact hc)]
theorem flat_lay (hk:∀x,(enc x).length=k) (L:List α) (i:Nat) (hi:i<=L.length) (x:α):flat enc (L.take i++x::L.drop i)=(flat enc L).take (i*k)++enc x++(flat enc L).drop (i*k):=by
 rw [flat_append,flat_cons,flat_take hk L i hi,flat_drop hk L i hi,vR]
theorem flat_set (hk:∀x,(enc x).length=k) (L:List α) (i:Nat) (hi:i<L.length) (x:α):flat enc (L.set i x)=(flat enc L).take (i*k)++enc x++(flat enc L).drop ((i+1)*k):=by
 rw [List.set_eq_take_append_cons_drop,if_pos hi,flat_append,flat_cons,flat_take hk L i zj,flat_drop hk L (i+1) zj,vR]
theorem flat_one (h1:∀x,∀v∈enc x,v.oneCell'=true) (L:List α):∀v∈flat enc L,v.oneCell'=true:=by
 intro v hv
 obtain ⟨x,_,hx⟩:=List.mem_flatMap.1 hv
 exact h1 x v hx
end
theorem owns_over {base k:Nat} {A B C:List Value} (h:w.ownsRow base E k (.slice (some ⟨g,0,none⟩) n cap) n (A++B++C)) (hl:B.length=vs.length):
  (w.setCells g A.length vs).ownsRow base E k (.slice (some ⟨g,0,none⟩) n cap) n (A++vs++C):=by
 obtain ⟨hlen,h2⟩:=h
 rcases h2 with ⟨hc,_⟩ | ⟨g',cap',cur,hc,hb,hg,hn,hm,hs,ht⟩
 ·cases hc
 cases hc
 have hlen':(A++vs++C).length=n*k:=by rw [<-hlen];simp [hl]
 refine ⟨hlen',.inr ⟨g,cap,_,rfl,hb,setCells_heap g vs A.length w cur E hg,hn,hm,by rw [over_size,hs],?_⟩⟩
 have hcur:cur.toList=A++B++(C++cur.toList.drop (n*k)):=by
  conv=>lhs;rw [<-vX (n*k) cur.toList]
  rw [ht];simp
 rw [over_list vs A B _ cur hcur hl,<-vR,vZ zj,vG zj]
end
section
open Go
theorem append_at (w:World) (base:Nat) (t ty e:TypeId) (i:TypeInfo) (z:Value) (size bytes:Nat) (ht:P.underlying t=some (.slice e)) (hi:P.info? e=some i) (hz:i.zero=some z)
  (hsize:i.size=size) (hby:i.bytes=bytes) (hzs:z.cells.size=size) (hsz:0<size)
  (v:Value) (n:Nat) (xs:List Value) (hown:w.ownsRow base e size v n xs)
  (a:Addr) (m c:Nat) (hm0:0<m) (news:List Value) (hl:news.length=m*size) (hnews:∀j u,news[j]? =some u->w.cell? (a.add j)=some u) (h1:∀u∈news,u.oneCell'=true)
  (h63:n+m<=maxLen) (hbytes:(n+m)*bytes<=140737488355328) (hbase:base<=w.heap.size):
  ∃v' w',(Builtin.append_ #[t,t] ty #[v,.slice (some a) m c]).run P w= .ok v' w'/\w'.ownsRow base e size v' (n+m) (xs++news)/\w.grownBy w' v.ownBlock/\
   (v'.ownBlock=v.ownBlock\/v'.ownBlock=some w.heap.size):=by
 obtain ⟨v',w',hrun,h',hg',-⟩:=run_append_own (P:=P) w base t ty e i z size bytes ht hi hz hsize hby hzs hsz v n xs hown a m c news hl hnews h1 h63 hbytes hbase
 refine ⟨v',w',hrun,h',hg',?_⟩
 subst hsize
 subst hby
 have hsmall:n+m<=9223372036854775807:=by simp only [maxLen] at h63;omega
 rcases hown.2 with ⟨rfl,rfl⟩ | ⟨g,cap,cur,rfl,hbg,hg,hnc,hcm,hcs,htake⟩
 ·have hr:=run_append_nil (P:=P) w t ty e i z ht hi hz a m c news hl hnews zj zj xE
  rw [hr] at hrun
  simp only [Result.ok.injEq] at hrun
  right
  rw [<-hrun.1]
  rfl
 by_cases hroom:n+m<=cap
 ·have hfit:n*i.size+news.length<=cur.size:=by rw [hl,hcs,<-Zb];exact uj _ hroom
  have hr:=run_append_room (P:=P) w t ty e i ht hi g n cap cur hg a m c news hl hnews h1 hroom hfit
  rw [hr] at hrun
  simp only [Result.ok.injEq] at hrun
  left
  rw [<-hrun.1]
  rfl
 have holds:∀j u,xs[j]? =some u->w.cell? ((⟨g,0,none⟩:Addr).add j)=some u:=hown.cells (g:=g) rfl
 have hr:=run_append_grow (P:=P) w t ty e i z ht hi hz ⟨g,0,none⟩ n cap xs hown.1 holds a m c news hl hnews zj zj (growslice_fits zj hbytes)
 rw [hr] at hrun
 simp only [Result.ok.injEq] at hrun
 right
 rw [<-hrun.1]
 rfl
end
section
open Go.RowKit Go.Maps
theorem zeroPl (w:World):(zeroValue 98).run prog w= .ok (encP zeroP) w:=zeroValue98 w
theorem MapAt.looks {f:Sta} (h:MapAt prog 3 w b n f) (hk:Wf k):
  (Instr.lookup 132 (.map (some b)) (.int .i64 k) true).run prog w= .ok (.tuple #[encP ((f k).getD zeroP),.bool (f k).isSome]) w:=
 h.look underlying3 underlying132 (zeroPl w) hk
theorem MapAt.looks1 {f:Sta} (h:MapAt prog 3 w b n f) (hk:Wf k):
  (Instr.lookup 132 (.map (some b)) (.int .i64 k) false).run prog w= .ok (encP ((f k).getD zeroP)) w:=
 h.look1 underlying3 underlying132 (zeroPl w) hk
theorem treeNew (w:World):Calls prog 79 #[] w fun e w'=>e= .returned (.pointer (some ⟨w.heap.size+1,0,none⟩))/\w'=(w.alloc (.map #[] 0)).alloc (.cells #[.map (some w.heap.size),.slice none 0 0] 135):=by
 have hmm:= @run_makeMap prog
 go_enter func79,ntmps79
 go_wp2
 go_ret
 exact ⟨rfl,rfl⟩
