import Derived.Test.YtebpcnkdhgnghaaGreatDoorPA05
set_option linter.unusedSimpArgs false
set_option linter.unusedVariables false
set_option maxRecDepth 100000
set_option maxHeartbeats 64000000
namespace Go.Proofs.YtebpcnkdhgnghaaGreatDoor
open Go.Proofs.Tryz
variable {id n nd:Int} {L:List Ltr} {A B S T t:List OpX} {f:Ltr→Ltr} {b i:Nat} {cap:Nat→Nat} {ao:Nat→Option Addr} {o x y:OpX} {w w':World}
section
def bF (S:List OpX) (b n:Int):Option OpX:=S.find? (fun x=>decide (byO x=b/\ah x=n))
theorem fq {b:Int} (h:bF S b n=some x):x∈S/\byO x=b/\ah x=n:=by
 unfold bF at h
 exact ko4
theorem lookK_none {b:Int} :bF S b n=none↔∀x∈S,¬(byO x=b/\ah x=n):=by
 unfold bF
 rw [List.find?_eq_none]
 simp
theorem pG (S T:List OpX) (b n:Int):bF (S++T) b n=(bF S b n).or (bF T b n):=by
 unfold bF
 rw [List.find?_append]
theorem Ax (h1:∀x∈S,∀y∈S,byO x=byO y->ah x=ah y->x=y) (hx:x∈S):bF S (byO x) (ah x)=some x:=by
 cases h:bF S (byO x) (ah x) with
 | none=>exact absurd ⟨rfl,rfl⟩ (lookK_none.1 h x hx)
 | some y=>
  obtain ⟨a,b,c⟩:=fq h
  rw [h1 x hx y a b.symm c.symm]
def Kt (x y:OpX):Bool:=decide (x.1=y.1/\x.2.1=y.2.1/\x.2.2.1=y.2.2.1/\x.2.2.2.1=y.2.2.2.1/\x.2.2.2.2.1=y.2.2.2.2.1/\x.2.2.2.2.2.1=y.2.2.2.2.2.1/\x.2.2.2.2.2.2.1.data.toList=y.2.2.2.2.2.2.1.data.toList/\x.2.2.2.2.2.2.2.data.toList=y.2.2.2.2.2.2.2.data.toList)
theorem AD {a b:ByteArray} (h:a.data.toList=b.data.toList):a=b:=by
 cases a;cases b
 simpa [Array.toList_inj] using h
theorem sameX_iff :Kt x y=true↔x=y:=by
 unfold Kt
 rw [decide_eq_true_iff]
 constructor
 ·intro h
  obtain ⟨a,b,c,d,e,f,g,i⟩:=x
  obtain ⟨a',b',c',d',e',f',g',i'⟩:=y
  obtain ⟨h1,h2,h3,h4,h5,h6,h7,h8⟩:=h
  simp only at h1 h2 h3 h4 h5 h6 h7 h8
  rw [h1,h2,h3,h4,h5,h6,AD h7,AD h8]
 intro h
 rw [h]
 exact ⟨rfl,rfl,rfl,rfl,rfl,rfl,rfl,rfl⟩
def cA (S:List OpX):Nat->List OpX->List OpX->(Nat×Nat)⊕List OpX
 | _,fresh,[]=>.inr fresh
 | i,fresh,o::t=>if bY o=0 then (match bF (S++fresh) (byO o) (ah o) with
   | none=>cA S (i+1) (fresh++ [o]) t
   | some x=>if Kt x o=true then cA S (i+1) fresh t else .inl (i,7)) else .inl (i,bY o)
theorem pT {fresh:List OpX} (h:bY o≠0):cA S i fresh (o::t)= .inl (i,bY o):=by
 rw [cA,if_neg h]
theorem lQ {fresh:List OpX} (h:bY o=0) (hl:bF (S++fresh) (byO o) (ah o)=none):cA S i fresh (o::t)=cA S (i+1) (fresh++ [o]) t:=by
 rw [cA,if_pos h,hl]
theorem fH {fresh:List OpX} (h:bY o=0) (hl:bF (S++fresh) (byO o) (ah o)=some o):cA S i fresh (o::t)=cA S (i+1) fresh t:=by
 rw [cA,if_pos h,hl]
 exact if_pos (sameX_iff.2 rfl)
theorem gZ {fresh:List OpX} (h:bY o=0) (hl:bF (S++fresh) (byO o) (ah o)=some x) (hx:x≠o):cA S i fresh (o::t)= .inl (i,7):=by
 rw [cA,if_pos h,hl]
 exact if_neg (fun q=>hx (sameX_iff.1 q))
structure FreshK (S fresh:List OpX):Prop where
 ok:∀x∈fresh,bY x=0
 off:∀x∈fresh,∀y∈S,¬(byO y=byO x/\ah y=ah x)
 one:fresh.Pairwise (fun x y=>¬(byO x=byO y/\ah x=ah y))
theorem dK (S:List OpX):FreshK S []:=⟨fun x h=>yY,fun x h=>yY,List.Pairwise.nil⟩
theorem FreshK.snoc {fresh:List OpX} (h:FreshK S fresh) (ho:bY o=0) (hl:bF (S++fresh) (byO o) (ah o)=none):FreshK S (fresh++ [o]):=by
 have hn:=lookK_none.1 hl
 refine ⟨fun x hx=> ?_,fun x hx=> ?_,?_⟩
 ·rcases jO.1 hx with h1 | h1
  ·exact h.ok x h1
  rw [jS.1 h1];exact ho
 ·rcases jO.1 hx with h1 | h1
  ·exact h.off x h1
  rw [jS.1 h1]
  exact fun y hy=>hn y (vg _ hy)
 refine List.pairwise_append.2 ⟨h.one,uJ _ _,fun x hx y hy=> ?_⟩
 rw [jS.1 hy]
 exact hn x (vB _ hx)
theorem co {S:List OpX} :∀ {l:List OpX} {i:Nat} {fresh out:List OpX},FreshK S fresh->cA S i fresh l= .inr out->FreshK S out/\(∀x,x∈out->x∈fresh\/x∈l)/\(∀x,x∈fresh->x∈out)/\(∀x∈l,x∈S\/x∈out)/\out.length<=fresh.length+l.length
 | [],_,_,_,hF,h=>by
  rw [cA] at h
  cases h
  exact ⟨hF,fun x hx=>.inl hx,fun x hx=>hx,fun x hx=>zP,zq⟩
 | o::t,i,fresh,out,hF,h=>by
  by_cases ho:bY o=0
  ·cases hl:bF (S++fresh) (byO o) (ah o) with
   | none=>
    rw [lQ ho hl] at h
    obtain ⟨k1,k2,k3,k4,k5⟩:=co (hF.snoc ho hl) h
    refine ⟨k1,fun x hx=> ?_,fun x hx=>k3 x (vg _ hx),fun x hx=> ?_,by simp at k5 |-;omega⟩
    ·rcases k2 x hx with q | q
     ·rcases jO.1 q with q | q
      ·exact .inl q
      exact .inr (by rw [jS.1 q];exact vr)
     exact .inr (vf _ q)
    rcases jQ.1 hx with rfl | hx
    ·exact .inr (k3 x zq)
    exact k4 x hx
   | some x=>
    by_cases hx:x=o
    ·subst hx
     rw [fH ho hl] at h
     obtain ⟨k1,k2,k3,k4,k5⟩:=co hF h
     refine ⟨k1,fun y hy=>(k2 y hy).imp (fun q=>q) (fun q=>vf _ q),k3,fun y hy=> ?_,by simp at k5 |-;omega⟩
     rcases jQ.1 hy with rfl | hy
     ·rcases jO.1 (fq hl).1 with q | q
      ·exact .inl q
      exact .inr (k3 _ q)
     exact k4 y hy
    rw [gZ ho hl hx] at h
    cases h
  rw [pT ho] at h
  cases h
theorem iD {S T:List OpX} (h1:∀x∈S,∀y∈S,byO x=byO y->ah x=ah y->x=y) (hT:∀x∈T,∀y∈T,byO x=byO y->ah x=ah y->x=y) (hc:Compat S T) (hok:∀x∈T,bY x=0):
  ∀ {l:List OpX} (i:Nat) {fresh:List OpX},(∀x∈l,x∈T)->(∀x∈fresh,x∈T)->∃out,cA S i fresh l= .inr out/\∀x∈out,x∈T
 | [],i,fresh,_,hf=>⟨fresh,rfl,hf⟩
 | o::t,i,fresh,hl,hf=>by
  have ho:=hok o (hl o vr)
  cases hk:bF (S++fresh) (byO o) (ah o) with
  | none=>
   rw [lQ ho hk]
   refine iD h1 hT hc hok (i+1) (fun x hx=>hl x (vf _ hx)) (fun x hx=> ?_)
   rcases jO.1 hx with q | q
   ·exact hf x q
   rw [jS.1 q];exact hl o vr
  | some x=>
   obtain ⟨a,b,c⟩:=fq hk
   have hx:x=o:=by
    rcases jO.1 a with q | q
    ·exact hc x q o (hl o vr) b c
    exact hT x (hf x q) o (hl o vr) b c
   subst hx
   rw [fH ho hk]
   exact iD h1 hT hc hok (i+1) (fun x hx=>hl x (vf _ hx)) hf
abbrev Rws:=Nat->List OpX
def aX (R:Rws):List OpX:=R 0++(R 1++(R 2++R 3))
theorem mem_allR {R:Rws} :x∈aX R↔∃i,i<4/\x∈R i:=by
 unfold aX
 simp only [jO]
 constructor
 ·rintro (h | h | h | h)
  ·exact ⟨0,zj,h⟩
  ·exact ⟨1,zj,h⟩
  ·exact ⟨2,zj,h⟩
  exact ⟨3,zj,h⟩
 rintro ⟨i,hi,h⟩
 match i,hi with
 | 0,_=>exact .inl h
 | 1,_=>exact .inr (.inl h)
 | 2,_=>exact .inr (.inr (.inl h))
 | 3,_=>exact .inr (.inr (.inr h))
def NumK (R:Rws):Prop:=∀i:Nat,i<4->∀(j:Nat) (x:OpX),(R i)[j]? =some x->byO x=(i:Int)/\ah x=(j:Int)+1/\bY x=0
def upR (R:Rws) (i:Nat) (l:List OpX):Rws:=fun j=>if j=i then l else R j
theorem Ht:NumK (fun _=>[]):=fun i _ j x h=>yY
theorem kG (h:bY x=0):∃i:Nat,i<4/\byO x=(i:Int)/\(byO x).toNat=i:=by
 have h0:=ax h
 have h1:0<=byO x:=h0.2.2.1
 have h2:byO x<4:=h0.2.2.2.1
 exact ⟨(byO x).toNat,zj,zj,rfl⟩
theorem NumK.get {R:Rws} (h:NumK R) (hi:i<4) (hx:x∈R i):∃j:Nat,(R i)[j]? =some x/\byO x=(i:Int)/\ah x=(j:Int)+1/\bY x=0:=by
 obtain ⟨j,hj,rfl⟩:=uD hx
 have e:=jK hj
 exact ⟨j,e,h i hi j _ e⟩
theorem NumK.one {R:Rws} (h:NumK R):∀x∈aX R,∀y∈aX R,byO x=byO y->ah x=ah y->x=y:=by
 intro x hx y hy e1 e2
 obtain ⟨i,hi,hx⟩:=mem_allR.1 hx
 obtain ⟨k,hk,hy⟩:=mem_allR.1 hy
 obtain ⟨j,a1,a2,a3,_⟩:=h.get hi hx
 obtain ⟨j',b1,b2,b3,_⟩:=h.get hk hy
 obtain rfl:i=k:=zj
 obtain rfl:j=j':=zj
 rw [a1] at b1
 exact Option.some.inj b1
theorem NumK.ok {R:Rws} (h:NumK R):∀x∈aX R,bY x=0:=by
 intro x hx
 obtain ⟨i,hi,hx⟩:=mem_allR.1 hx
 obtain ⟨_,_,_,_,h⟩:=h.get hi hx
 exact h
theorem NumK.gap {R:Rws} (h:NumK R):∀x∈aX R,ah x=1\/∃y∈aX R,byO y=byO x/\ah y+1=ah x:=by
 intro x hx
 obtain ⟨i,hi,hx⟩:=mem_allR.1 hx
 obtain ⟨j,a1,a2,a3,_⟩:=h.get hi hx
 cases j with
 | zero=>exact .inl zj
 | succ j=>
  have hl:=(jI.1 a1).1
  have e:=jK (show j<(R i).length by omega)
  obtain ⟨b1,b2,_⟩:=h i hi j _ e
  exact .inr ⟨_,mem_allR.2 ⟨i,hi,jT e⟩,zj,zj⟩
theorem NumK.look {R:Rws} (h:NumK R) {n:Nat} (hi:i<4):bF (aX R) (i:Int) ((n:Int)+1)=(R i)[n]? :=by
 cases e:(R i)[n]? with
 | none=>
  refine lookK_none.2 (fun x hx ⟨e1,e2⟩=> ?_)
  obtain ⟨k,hk,hx⟩:=mem_allR.1 hx
  obtain ⟨j,a1,a2,a3,_⟩:=h.get hk hx
  obtain rfl:k=i:=zj
  obtain rfl:j=n:=zj
  rw [a1] at e
  cases e
 | some x=>
  obtain ⟨b1,b2,_⟩:=h i hi n x e
  rw [<-b1,<-b2]
  exact Ax h.one (mem_allR.2 ⟨i,hi,jT e⟩)
theorem gu {R:Rws} (hi:i<4) :x∈aX (upR R i (R i++ [o]))↔x∈aX R\/x=o:=by
 constructor
 ·intro h
  obtain ⟨k,hk,h⟩:=mem_allR.1 h
  unfold upR at h
  split at h
  ·rename_i e
   subst e
   rcases jO.1 h with h | h
   ·exact .inl (mem_allR.2 ⟨_,hk,h⟩)
   exact .inr (jS.1 h)
  exact .inl (mem_allR.2 ⟨k,hk,h⟩)
 rintro (h | rfl)
 ·obtain ⟨k,hk,h⟩:=mem_allR.1 h
  refine mem_allR.2 ⟨k,hk,?_⟩
  unfold upR
  split
  ·rename_i e
   subst e
   exact vg _ h
  exact h
 refine mem_allR.2 ⟨i,hi,?_⟩
 unfold upR
 rw [if_pos rfl]
 simp
theorem NumK.up {R:Rws} (h:NumK R) {i:Nat} {o:OpX} (ho:bY o=0) (hb:byO o=(i:Int)) (hn:ah o=((R i).length:Int)+1):NumK (upR R i (R i++ [o])):=by
 intro k hk j x hx
 unfold upR at hx
 split at hx
 ·rename_i e
  subst e
  rw [List.getElem?_append] at hx
  split at hx
  ·exact h _ hk j x hx
  rename_i hj
  obtain ⟨d,hd⟩:=za (j - (R k).length)
  rw [<-hd] at hx
  cases d with
  | zero=>
   cases hx
   exact ⟨hb,zj,ho⟩
  | succ d=>simp at hx
 exact h k hk j x hx
def Gap (S:List OpX):Prop:=∃x∈S,ah x≠1/\¬∃y∈S,byO y=byO x/\ah y+1=ah x
def Falls (S:List OpX):Prop:=∃x∈S,∃y∈S,byO x=byO y/\ah x+1=ah y/\¬CLt (stO x) (stO y)
theorem Gap.congr (e:∀x,x∈S↔x∈T) (h:Gap S):Gap T:=by
 obtain ⟨x,hx,h1,h2⟩:=h
 exact ⟨x,(e x).1 hx,h1,fun ⟨y,hy,q⟩=>h2 ⟨y,(e y).2 hy,q⟩⟩
theorem Falls.congr (e:∀x,x∈S↔x∈T) (h:Falls S):Falls T:=by
 obtain ⟨x,hx,y,hy,q⟩:=h
 exact ⟨x,(e x).1 hx,y,(e y).1 hy,q⟩
theorem NumK.nogap {R:Rws} (h:NumK R):¬Gap (aX R):=fun ⟨x,hx,h1,h2⟩=>by
 rcases h.gap x hx with q | q
 ·exact h1 q
 exact h2 q
def eo (l:List OpX) (o:OpX):Bool:=match l.getLast? with
 | none=>true
 | some y=>decide (CLt (stO y) (stO o))
def ce:Rws->Bool->List OpX->Option (Rws×Bool)
 | R,z,[]=>some (R,z)
 | R,z,o::t=>if ah o=((R (byO o).toNat).length:Int)+1 then ce (upR R (byO o).toNat (R (byO o).toNat++ [o])) (z &&eo (R (byO o).toNat) o) t else none
theorem Gy {R:Rws} (h:NumK R) {i:Nat} (hi:i<4) {o:OpX} (hb:byO o=(i:Int)) (hn:ah o=((R i).length:Int)+1):Falls (aX (upR R i (R i++ [o])))↔Falls (aX R)\/eo (R i) o=false:=by
 have hlast:∀y,(R i).getLast? =some y->y∈aX R/\byO y=byO o/\ah y+1=ah o:=fun y hy=>by
  have hy':(R i)[(R i).length - 1]? =some y:=by rw [<-List.getLast?_eq_getElem?];exact hy
  have hl:=(jI.1 hy').1
  obtain ⟨a,b,_⟩:=h i hi _ y hy'
  exact ⟨mem_allR.2 ⟨i,hi,jT hy'⟩,zj,zj⟩
 constructor
 ·rintro ⟨x,hx,y,hy,e1,e2,e3⟩
  rcases (gu hi).1 hx with hx1 | rfl
  ·rcases (gu hi).1 hy with hy1 | rfl
   ·exact .inl ⟨x,hx1,y,hy1,e1,e2,e3⟩
   refine .inr ?_
   obtain ⟨k,hk,hx'⟩:=mem_allR.1 hx1
   obtain ⟨j,a1,a2,a3,_⟩:=h.get hk hx'
   obtain rfl:k=i:=zj
   have hj:j=(R k).length - 1:=zj
   have hlst:(R k).getLast? =some x:=by rw [List.getLast?_eq_getElem?,<-hj];exact a1
   unfold eo
   rw [hlst]
   exact decide_eq_false e3
  exfalso
  rcases (gu hi).1 hy with hy | rfl
  ·obtain ⟨k,hk,hy'⟩:=mem_allR.1 hy
   obtain ⟨j,a1,a2,a3,_⟩:=h.get hk hy'
   obtain rfl:k=i:=zj
   have:=(jI.1 a1).1
   omega
  omega
 rintro (⟨x,hx,y,hy,q⟩ | hr)
 ·exact ⟨x,(gu hi).2 (.inl hx),y,(gu hi).2 (.inl hy),q⟩
 unfold eo at hr
 cases hl:(R i).getLast? with
 | none=>rw [hl] at hr;cases hr
 | some y=>
  rw [hl] at hr
  obtain ⟨a,b,c⟩:=hlast y hl
  exact ⟨y,(gu hi).2 (.inl a),o,(gu hi).2 (.inr rfl),b,c,of_decide_eq_false hr⟩
theorem rj:∀(F:List OpX) (R:Rws) (z:Bool),NumK R->FreshK (aX R) F->F.Pairwise (fun a b=>ah a<=ah b)->(z=true↔¬Falls (aX R))->
  (ce R z F=none/\Gap (aX R++F))\/∃R' z',ce R z F=some (R',z')/\¬Gap (aX R++F)/\NumK R'/\(∀x,x∈aX R'↔x∈aX R++F)/\(z'=true↔¬Falls (aX R++F))/\(aX R').length=(aX R).length+F.length/\∀i,∃t,R' i=R i++t
 | [],R,z,hN,_,_,hz=>.inr ⟨R,z,rfl,by rw [vZ];exact hN.nogap,hN,fun x=>by rw [vZ],by rw [vZ];exact hz,zq,fun i=>⟨[],zq⟩⟩
 | o::t,R,z,hN,hF,hs,hz=>by
  have ho:=hF.ok o vr
  obtain ⟨i,hi,hb,hbn⟩:=kG ho
  by_cases hn:ah o=((R i).length:Int)+1
  ·have hN1:=hN.up ho hb hn
   have hF1:FreshK (aX (upR R i (R i++ [o]))) t:=by
    refine ⟨fun x hx=>hF.ok x (vf _ hx),fun x hx y hy=> ?_,(vF.1 hF.one).2⟩
    rcases (gu hi).1 hy with hy | rfl
    ·exact hF.off x (vf _ hx) y hy
    exact (vF.1 hF.one).1 x hx
   have hz1:(z &&eo (R i) o)=true↔¬Falls (aX (upR R i (R i++ [o]))):=by
    rw [Gy hN hi hb hn,uk,hz]
    cases eo (R i) o<;>simp
   have hmem:∀x,x∈aX (upR R i (R i++ [o]))++t↔x∈aX R++o::t:=fun x=>by
    simp only [jO,gu hi,jQ]
    constructor
    ·rintro ((h | h) | h)
     ·exact .inl h
     ·exact .inr (.inl h)
     exact .inr (.inr h)
    rintro (h | h | h)
    ·exact .inl (.inl h)
    ·exact .inl (.inr h)
    exact .inr h
   have hg:ce R z (o::t)=ce (upR R i (R i++ [o])) (z &&eo (R i) o) t:=by rw [ce,hbn,if_pos hn]
   have hlen:(aX (upR R i (R i++ [o]))).length=(aX R).length+1:=by
    unfold aX upR
    match i,hi with
    | 0,_=>simp;omega
    | 1,_=>simp;omega
    | 2,_=>simp;omega
    | 3,_=>simp;omega
   rcases rj t _ _ hN1 hF1 (vF.1 hs).2 hz1 with ⟨a,b⟩ | ⟨R',z',a,b,c,d,e,f,g⟩
   ·exact .inl ⟨hg.trans a,b.congr hmem⟩
   refine .inr ⟨R',z',hg.trans a,fun q=>b (q.congr (fun x=>(hmem x).symm)),c,fun x=>(d x).trans (hmem x),e.trans (not_congr ⟨fun q=>q.congr hmem,fun q=>q.congr (fun x=>(hmem x).symm)⟩),by rw [f,hlen,jY];omega,fun k=> ?_⟩
   obtain ⟨t',ht'⟩:=g k
   unfold upR at ht'
   split at ht'
   ·rename_i ek
    subst ek
    exact ⟨o::t',by rw [ht'];simp⟩
   exact ⟨t',ht'⟩
  refine .inl ⟨by rw [ce,hbn,if_neg hn],o,zq,?_,?_⟩
  ·intro h1
   have hlt:0<(R i).length:=zj
   have e:=jK hlt
   obtain ⟨b1,b2,_⟩:=hN i hi 0 _ e
   exact hF.off o vr _ (mem_allR.2 ⟨i,hi,jT e⟩) ⟨zj,zj⟩
  rintro ⟨y,hy,e1,e2⟩
  rcases jO.1 hy with hy | hy
  ·obtain ⟨k,hk,hy⟩:=mem_allR.1 hy
   obtain ⟨j,a1,a2,a3,_⟩:=hN.get hk hy
   obtain rfl:k=i:=zj
   have hj:=(jI.1 a1).1
   have hl:j+1<(R k).length:=by
    rcases ue (j+1) (R k).length with q | q
    ·exact q
    exact absurd zj hn
   have e:=jK hl
   obtain ⟨b1,b2,_⟩:=hN k hk (j+1) _ e
   exact hF.off o vr _ (mem_allR.2 ⟨k,hk,jT e⟩) ⟨zj,by push_cast at b2;omega⟩
  rcases jQ.1 hy with rfl | hy
  ·omega
  have:=(vF.1 hs).1 y hy
  omega
structure RowsK (R:Rws):Prop where
 num:NumK R
 well:WellK (aX R)
theorem gp:RowsK (fun _=>[]):=⟨Ht,by unfold aX;exact mv⟩
theorem RowsK.nofall {R:Rws} (h:RowsK R):¬Falls (aX R):=fun ⟨x,hx,y,hy,e1,e2,e3⟩=>e3 (h.well.rise x hx y hy e1 e2)
structure RowsN (R:Rws):Prop where
 num:NumK R
 up:∀x∈aX R,∀y∈aX R,byO x=byO y->ah x+1=ah y->CLt (stO x) (stO y)
theorem RowsK.toN {R:Rws} (h:RowsK R):RowsN R:=⟨h.num,h.well.rise⟩
theorem RowsN.less {R:Rws} (h:RowsN R) {x:OpX} (hx:x∈aX R):∀(d:Nat) {y:OpX},y∈aX R->byO x=byO y->ah x+(d+1)=ah y->CLt (stO x) (stO y)
 | 0,y,hy,e1,e2=>h.up x hx y hy e1 zj
 | d+1,y,hy,e1,e2=>by
  rcases h.num.gap y hy with q | ⟨z,hz,z1,z2⟩
  ·have:=oG (h.num.ok x hx)
   omega
  exact fC (h.less hx d hz zj zj) (h.up z hz y hy z1 z2)
theorem RowsN.stamp {R:Rws} (h:RowsN R) (hx:x∈aX R) (hy:y∈aX R) (e:stO x=stO y):x=y:=by
 have e1:byO x=byO y:=(Prod.mk.inj e).2
 rcases Int.lt_trichotomy (ah x) (ah y) with q | q | q
 ·have:=h.less hx (ah y - ah x - 1).toNat hy e1 zj
  exact kj3
 ·exact h.num.one x hx y hy e1 q
 have:=h.less hy (ah x - ah y - 1).toNat hx e1.symm zj
 exact kj3
theorem RowsN.rise {R:Rws} (h:RowsN R) (hi:i<4):(R i).Pairwise (fun a b=>CLt (stO a) (stO b)):=by
 rw [vO]
 intro a b ha hb hab
 have ea:=jK ha
 have eb:=jK hb
 obtain ⟨a1,a2,_⟩:=h.num i hi a _ ea
 obtain ⟨b1,b2,_⟩:=h.num i hi b _ eb
 exact h.less (mem_allR.2 ⟨i,hi,jT ea⟩) (b - a - 1) (mem_allR.2 ⟨i,hi,jT eb⟩) zj zj
theorem fJ {R R':Rws} (h:NumK R) (h':NumK R') (e:∀x,x∈aX R↔x∈aX R') (hi:i<4):R i=R' i:=by
 refine List.ext_getElem? (fun n=> ?_)
 rw [<-h.look hi,<-h'.look hi]
 cases hk:bF (aX R) (i:Int) ((n:Int)+1) with
 | none=>exact (lookK_none.2 (fun x hx=>lookK_none.1 hk x ((e x).2 hx))).symm
 | some x=>
  obtain ⟨a,b,c⟩:=fq hk
  rw [<-b,<-c]
  exact (Ax h'.one ((e x).1 a)).symm
def cX (S l:List OpX) (a:(Int×Nat)⊕List OpX):Prop:=match cA S 0 [] l with
 | .inl (i,c)=>a= .inl ((i:Int),c)
 | .inr fresh=>(Gap (S++fresh)/\a= .inl (-1,9))\/(¬Gap (S++fresh)/\Falls (S++fresh)/\a= .inl (-1,3))\/(¬Gap (S++fresh)/\¬Falls (S++fresh)/\(∃x∈S++fresh,¬RefOk (S++fresh) x)/\a= .inl (-1,6))\/(WellK (S++fresh)/\400<S.length+fresh.length/\a= .inl (-1,8))\/(WellK (S++fresh)/\S.length+fresh.length<=400/\a= .inr fresh)
end
section
def ML (x:OpX):Nat:=(x.2.2.2.2.2.2.2.data.toList.headD 0).toNat
def MM (nd:Int) (x:OpX):Option (Int×Ltr):=if kdO x=105/\aG x=nd then some (aF x,(idO x,ML x,false)) else none
def cr (A:List OpX) (nd id:Int):Prop:=∃x∈A,kdO x=100/\aG x=nd/\aF x=id
theorem Lq (A:List OpX) (nd id:Int):(A.any fun x=>decide (kdO x=100/\aG x=nd/\aF x=id))=true↔cr A nd id:=by simp [cr]
def KK (A:List OpX) (nd id:Int):Decidable (cr A nd id):=decidable_of_iff _ (Lq A nd id)
def gm (A:List OpX) (nd:Int) (l:Ltr):Ltr:= @ite _ (cr A nd l.1) (KK A nd l.1) (l.1,0,true) l
theorem lY (A:List OpX) (nd:Int) (l:Ltr):(gm A nd l).1=l.1:=by unfold gm;split<;>rfl
theorem ki (A:List OpX) (nd:Int) (L:List Ltr):(L.map (gm A nd)).map (·.1)=L.map (·.1):=by rw [List.map_map];exact ut fun l _=>lY A nd l
def LineIs (A:List OpX) (nd:Int) (L:List Ltr):Prop:=∃s,s.Perm (A.filterMap (MM nd))/\oe s/\L=(cH s []).map (gm A nd)
theorem oE {f:Ltr->Ltr} (hf:∀l,(f l).1=l.1) {x:Ltr} (hx:f x=x):∀L,laid x (L.map f)=(laid x L).map f
 | []=>by simp [laid,hx]
 | h::t=>by
  by_cases k:x.1<h.1
  ·rw [vJ,af xk,af k,vJ,oE hf hx t]
  rw [vJ,bC xk,bC k,vJ,vJ,hx]
theorem AY {f:Ltr->Ltr} (hf:∀l,(f l).1=l.1) {x:Ltr} (hx:f x=x) (b:Int):∀L,rN b x (L.map f)=(rN b x L).map f
 | []=>by simp [rN]
 | h::t=>by
  by_cases k:h.1=b
  ·rw [vJ,bq xk,bq k,vJ,oE hf hx t]
  rw [vJ,cP xk,cP k,vJ,AY hf hx b t]
theorem Lb (hf:∀l,(f l).1=l.1) {x:Ltr} (hx:f x=x) (b:Int) (L:List Ltr):put b x (L.map f)=(put b x L).map f:=by
 unfold put
 split
 ·exact oE hf hx L
 exact AY hf hx b L
theorem fh:∀(n:Nat) (s:List (Int×Ltr)),s.length=n->oe s->((cH s []).map (·.1)).Perm (s.map (·.2.1))
 | 0,s,hn,_=>by rw [ve.1 hn];exact List.Perm.refl _
 | n+1,s,hn,h=>by
  rcases ff s with rfl | ⟨u,m,rfl⟩
  ·simp at hn
  have hu:=nL h
  have ih:=fh n u (by simp at hn;exact hn) hu
  rw [dI,fi]
  have hb:m.1=0\/m.1∈(cH u []).map (·.1):=by
   rcases h.2.2 u m [] zq with q | ⟨y,hy,q⟩
   ·exact .inl q
   exact .inr (ih.mem_iff.2 (vp.2 ⟨y,hy,q⟩))
  refine (Fi hb).trans ?_
  rw [vz,vJ,uB]
  exact ((ih.cons m.2.1)).trans (um (l₁:=[m.2.1]))
theorem LineIs.ids (h:LineIs A nd L):(L.map (·.1)).Perm ((A.filterMap (MM nd)).map (·.2.1)):=by
 obtain ⟨s,h1,h2,rfl⟩:=h
 rw [ki]
 exact (fh _ s rfl h2).trans (h1.map _)
theorem LineIs.mem (h:LineIs A nd L) :id∈L.map (·.1)↔LetterN A nd id:=by
 rw [h.ids.mem_iff]
 constructor
 ·intro q
  obtain ⟨m,hm,rfl⟩:=vp.1 q
  obtain ⟨x,hx,e⟩:=uI.1 hm
  unfold MM at e
  split at e
  ·rename_i k
   cases e
   exact ⟨x,hx,k.1,k.2,rfl⟩
  cases e
 rintro ⟨x,hx,k1,k2,k3⟩
 exact vp.2 ⟨_,uI.2 ⟨x,hx,if_pos ⟨k1,k2⟩⟩,k3⟩
theorem LineIs.nodup (h:LineIs A nd L):(L.map (·.1)).Nodup:=by
 obtain ⟨s,h1,h2,rfl⟩:=h
 rw [ki]
 exact (fh _ s rfl h2).nodup_iff.2 h2.1
theorem LineIs.len (h:LineIs A nd L):L.length<=A.length:=by
 have:=h.ids.length_eq
 rw [vy,vy] at this
 rw [this]
 exact uW _ _
theorem LineIs.perm (h:LineIs A nd L) (e:A.Perm B):LineIs B nd L:=by
 obtain ⟨s,h1,h2,rfl⟩:=h
 have hg:∀id,cr A nd id↔cr B nd id:=fun id=>⟨fun ⟨x,hx,q⟩=>⟨x,e.mem_iff.1 hx,q⟩,fun ⟨x,hx,q⟩=>⟨x,e.mem_iff.2 hx,q⟩⟩
 refine ⟨s,h1.trans (e.filterMap _),h2,ut (fun l _=> ?_)⟩
 unfold gm
 by_cases q:cr A nd l.1
 ·rw [if_pos q,if_pos ((hg _).1 q)]
 rw [if_neg q,if_neg (fun k=>q ((hg _).2 k))]
theorem LineIs.unique {M:List Ltr} (h:LineIs A nd L) (k:LineIs A nd M):L=M:=by
 obtain ⟨s,h1,h2,rfl⟩:=h
 obtain ⟨r,k1,k2,rfl⟩:=k
 rw [gw _ s r rfl (h1.trans k1.symm) h2 k2]
theorem LineIs.skip (h:LineIs A nd L) (hx:¬(aG x=nd/\(kdO x=105\/kdO x=100))):LineIs (x::A) nd L:=by
 obtain ⟨s,h1,h2,rfl⟩:=h
 refine ⟨s,?_,h2,ut (fun l _=> ?_)⟩
 ·rw [List.filterMap_cons_none (show MM nd x=none from if_neg (fun q=>hx ⟨q.2,.inl q.1⟩))]
  exact h1
 have hg:cr (x::A) nd l.1↔cr A nd l.1:=by
  constructor
  ·rintro ⟨y,hy,q⟩
   rcases jQ.1 hy with rfl | hy
   ·exact absurd ⟨q.2.1,.inr q.1⟩ hx
   exact ⟨y,hy,q⟩
  rintro ⟨y,hy,q⟩
  exact ko1
 unfold gm
 by_cases q:cr A nd l.1
 ·rw [if_pos q,if_pos (hg.2 q)]
 rw [if_neg q,if_neg (fun k=>q (hg.1 k))]
theorem LineIs.ins (h:LineIs A nd L) (hk:kdO x=105) (hn:aG x=nd) (hnew:idO x∉L.map (·.1)) (hpos:idO x≠0) (ho:aF x=0\/aF x∈L.map (·.1)) (hg:¬cr A nd (idO x)):LineIs (x::A) nd (put (aF x) (idO x,ML x,false) L):=by
 have hids:=h.ids
 obtain ⟨s,h1,h2,rfl⟩:=h
 rw [ki] at hnew ho hids
 have hps:=fh _ s rfl h2
 have hgo:∀id,cr (x::A) nd id↔cr A nd id:=fun id=>by
  constructor
  ·rintro ⟨y,hy,q⟩
   rcases jQ.1 hy with rfl | hy
   ·rw [hk] at q;exact absurd q.1 zo
   exact ⟨y,hy,q⟩
  rintro ⟨y,hy,q⟩
  exact ko1
 have hhide:∀l,gm (x::A) nd l=gm A nd l:=fun l=>by
  unfold gm
  by_cases q:cr A nd l.1
  ·rw [if_pos q,if_pos ((hgo _).2 q)]
  rw [if_neg q,if_neg (fun k=>q ((hgo _).1 k))]
 have hxl:gm A nd (idO x,ML x,false)=(idO x,ML x,false):=if_neg hg
 refine ⟨s++ [(aF x,(idO x,ML x,false))],?_,⟨?_,?_,?_⟩,?_⟩
 ·rw [List.filterMap_cons_some (show MM nd x=some _ from if_pos ⟨hk,hn⟩)]
  exact (um).trans (h1.cons _)
 ·rw [vz,vM]
  refine ⟨h2.1,zq,fun a ha b hb=> ?_⟩
  simp at hb
  subst hb
  intro e
  subst e
  exact hnew (hps.mem_iff.2 ha)
 ·intro m hm
  rcases jO.1 hm with hm | hm
  ·exact h2.2.1 m hm
  rw [jS.1 hm];exact hpos
 ·intro u m v e
  rcases ff v with rfl | ⟨v',q,rfl⟩
  ·obtain ⟨rfl,e2⟩:=List.append_inj' e rfl
   cases e2
   rcases ho with ho | ho
   ·exact .inl ho
   obtain ⟨y,hy,e⟩:=vp.1 (hps.mem_iff.1 ho)
   exact .inr ⟨y,hy,e⟩
  have e':s++ [(aF x,(idO x,ML x,false))]=(u++m::v')++ [q]:=by rw [e];simp
  obtain ⟨rfl,_⟩:=List.append_inj' e' rfl
  exact h2.2.2 u m v' rfl
 rw [dI,fi,Lb (lY A nd) hxl]
 exact ut (fun l _=>(hhide l).symm)
theorem LineIs.del (h:LineIs A nd L) (hk:kdO x=100) (hn:aG x=nd) (hf:cj (aF x) L=some i):LineIs (x::A) nd (L.set i (aF x,0,true)):=by
 have hnd:=h.nodup
 obtain ⟨s,h1,h2,rfl⟩:=h
 refine ⟨s,?_,h2,?_⟩
 ·rw [List.filterMap_cons_none (show MM nd x=none from if_neg (fun q=>by rw [hk] at q;exact absurd q.1 zo))]
  exact h1
 obtain ⟨l0,hl0,hid⟩:=cn hf
 have hgo:∀id,cr (x::A) nd id↔id=aF x\/cr A nd id:=fun id=>by
  constructor
  ·rintro ⟨y,hy,q⟩
   rcases jQ.1 hy with rfl | hy
   ·exact .inl q.2.2.symm
   exact .inr ⟨y,hy,q⟩
  rintro (rfl | ⟨y,hy,q⟩)
  ·exact ⟨x,vr,hk,hn,rfl⟩
  exact ko1
 rw [ki] at hnd
 refine List.ext_getElem? (fun j=> ?_)
 rw [List.getElem?_set,vy,vP,vP]
 rw [vP] at hl0
 cases hj:(cH s [])[j]? with
 | none=>
  have hjl:=List.getElem?_eq_none_iff.1 hj
  split
  ·rename_i e
   subst e
   rw [if_neg zj]
   rfl
  rfl
 | some l=>
  have hjl:=(jI.1 hj).1
  split
  ·rename_i e
   subst e
   rw [if_pos hjl]
   rw [hj] at hl0
   cases hl0
   rw [lY] at hid
   have hq:gm (x::A) nd l=(l.1,0,true):=if_pos ((hgo _).2 (.inl hid))
   simp only [uo,hq,hid]
  rename_i e
  have hne:l.1≠aF x:=fun q=>e (by
   have hil:i<(cH s []).length:=by
    cases hi:(cH s [])[i]? with
    | none=>rw [hi] at hl0;cases hl0
    | some _=>exact (jI.1 hi).1
   have e1:((cH s []).map (·.1))[i]? =some (aF x):=by
    rw [vP]
    cases hi:(cH s [])[i]? with
    | none=>rw [hi] at hl0;cases hl0
    | some l'=>
     rw [hi] at hl0
     cases hl0
     rw [lY] at hid
     simp [hid]
   have e2:((cH s []).map (·.1))[j]? =some (aF x):=by rw [vP,hj];simp [q]
   exact (List.getElem?_inj (by simpa using hil) hnd).1 (e1.trans e2.symm))
  have hq:gm (x::A) nd l=gm A nd l:=by
   unfold gm
   by_cases q:cr A nd l.1
   ·rw [if_pos q,if_pos ((hgo _).2 (.inr q))]
   rw [if_neg q,if_neg (fun k=>((hgo _).1 k).elim hne q)]
  simp only [uo,hq]
theorem LineIs.new (h:∀x∈A,aG x=nd->kdO x≠105):LineIs A nd []:=by
 refine ⟨[],?_,⟨zq,fun m hm=>by simp at hm,fun u m v e=>by simp at e⟩,rfl⟩
 rw [show List.filterMap (MM nd) A= [] from List.filterMap_eq_nil_iff.2 (fun x hx=>if_neg (fun q=>h x hx q.2 q.1))]
def OH (x:OpX):Option Mov:=if kdO x=109 then some ((x.1,x.2.1),(aG x,aF x,x.2.2.2.2.2.2.1)) else none
def eu (A:List OpX):List Mov:=A.filterMap OH
def cD (A:List OpX) (T:Int):Prop:=(∀x∈A,x.1<=T)/\(T=0\/∃x∈A,x.1=T)/\0<=T
theorem DV:cD [] 0:=⟨fun x h=>yY,.inl rfl,Int.le_refl _⟩
theorem cM {T T':Int} (h:cD A T) (k:cD A T'):T=T':=by
 obtain ⟨h1,h2,h3⟩:=h
 obtain ⟨k1,k2,k3⟩:=k
 rcases h2 with rfl | ⟨x,hx,rfl⟩<;>rcases k2 with rfl | ⟨y,hy,rfl⟩
 ·rfl
 ·have:=h1 y hy;omega
 ·have:=k1 x hx;omega
 have:=h1 y hy;have:=k1 x hx;omega
theorem CR {T:Int} (h:cD A T) (x:OpX) (hx:1<=x.1):cD (x::A) (if T<x.1 then x.1 else T):=by
 obtain ⟨h1,h2,h3⟩:=h
 split
 ·rename_i q
  refine ⟨fun y hy=> ?_,.inr ⟨x,vr,rfl⟩,zj⟩
  rcases jQ.1 hy with rfl | hy
  ·exact Int.le_refl _
  have:=h1 y hy;omega
 rename_i q
 refine ⟨fun y hy=> ?_,h2.imp (fun e=>e) (fun ⟨y,hy,e⟩=>⟨y,vf _ hy,e⟩),h3⟩
 rcases jQ.1 hy with rfl | hy
 ·omega
 exact h1 y hy
end
section
open scoped Classical
theorem gj (h:bY x=0):1<=x.1/\x.1<=1073741824/\0<=byO x/\byO x<4:=by
 have h0:=ax h
 exact ⟨h0.1,h0.2.1,h0.2.2.1,h0.2.2.2.1⟩
theorem fZ (h:bY x=0):((kdO x=109/\aG x<=idO x)\/aG x<idO x)/\aF x<idO x/\0<=aG x/\0<=aF x/\(kdO x=109->2<=aG x)/\(kdO x=100->aF x≠0):=by
 have h0:=ax h
 have hid:4<=idO x:=by unfold idO;have:=h0.1;have:=h0.2.2.1;omega
 unfold bY opE at h
 rw [if_pos ⟨h0.1,h0.2.1,h0.2.2.1,h0.2.2.2.1,h0.2.2.2.2.1,h0.2.2.2.2.2.1⟩] at h
 have e:x.1*4+x.2.1=idO x:=rfl
 rw [e] at h
 unfold kB at h
 split at h
 ·rename_i hk
  unfold cR at h
  split at h
  ·cases h
  rename_i hc
  have hk':kdO x=109:=hk
  have e1:x.2.2.2.2.1=aG x:=rfl
  have e2:x.2.2.2.2.2.1=aF x:=rfl
  rw [e1,e2] at hc
  exact ⟨.inl ⟨hk',zj⟩,zj,zj,zj,fun _=>zj,fun k=>by rw [hk'] at k;exact absurd k zo⟩
 rename_i hk
 have hk':kdO x≠109:=hk
 split at h
 ·rename_i hki
  unfold nH at h
  split at h
  ·cases h
  rename_i hc
  have e1:x.2.2.2.2.1=aG x:=rfl
  have e2:x.2.2.2.2.2.1=aF x:=rfl
  rw [e1,e2] at hc
  have hki':kdO x=105:=hki
  exact ⟨.inr zj,zj,zj,zj,fun k=>absurd k hk',fun k=>by rw [hki'] at k;exact absurd k zo⟩
 split at h
 ·unfold oM at h
  split at h
  ·cases h
  rename_i hc
  have e1:x.2.2.2.2.1=aG x:=rfl
  have e2:x.2.2.2.2.2.1=aF x:=rfl
  rw [e1,e2] at hc
  exact ⟨.inr zj,zj,zj,zj,fun k=>absurd k hk',fun _=>zj⟩
 rename_i hkd
 have hkd':kdO x≠100:=hkd
 split at h
 ·unfold oQ at h
  split at h
  ·cases h
  rename_i hc
  have e1:x.2.2.2.2.1=aG x:=rfl
  have e2:x.2.2.2.2.2.1=aF x:=rfl
  rw [e1,e2] at hc
  exact ⟨.inr zj,zj,zj,zj,fun k=>absurd k hk',fun k=>absurd k hkd'⟩
 cases h
theorem Js (hx:bY x=0) (hy:bY y=0) (e:idO x=idO y):stO x=stO y:=by
 have h1:=gj hx
 have h2:=gj hy
 unfold idO at e
 have e1:x.2.1=byO x:=rfl
 have e2:y.2.1=byO y:=rfl
 rw [e1,e2] at e
 have a:x.1=y.1:=zj
 have b:byO x=byO y:=zj
 unfold stO
 rw [a,show x.2.1=y.2.1 from b]
theorem OF (hx:bY x=0) (hy:bY y=0) (h:idO x<idO y):CLt (stO x) (stO y):=by
 have h1:=gj hx
 have h2:=gj hy
 unfold idO at h
 have e1:x.2.1=byO x:=rfl
 have e2:y.2.1=byO y:=rfl
 rw [e1,e2] at h
 unfold CLt stO
 dsimp only
 rw [e1,e2]
 omega
theorem KZ (hx:bY x=0):4<=idO x:=by
 have h1:=gj hx
 unfold idO
 have e1:x.2.1=byO x:=rfl
 rw [e1]
 omega
structure StepOk (A:List OpX) (o:OpX):Prop where
 ok:bY o=0
 new:∀x∈A,stO x≠stO o
 refs:RefOk (o::A) o
 all:∀x∈A,bY x=0/\RefOk A x
 uniq:∀x∈A,∀y∈A,stO x=stO y->x=y
theorem StepOk.perm (h:StepOk A o) (e:A.Perm B):StepOk B o:=
 ⟨h.ok,fun x hx=>h.new x (e.mem_iff.2 hx),h.refs.mono (fun x hx=>by rcases jQ.1 hx with rfl | hx;exact vr;exact vf _ (e.mem_iff.1 hx)),fun x hx=>⟨(h.all x (e.mem_iff.2 hx)).1,(h.all x (e.mem_iff.2 hx)).2.mono (fun y hy=>e.mem_iff.1 hy)⟩,fun x hx y hy=>h.uniq x (e.mem_iff.2 hx) y (e.mem_iff.2 hy)⟩
theorem StepOk.idnew (h:StepOk A o):∀x∈A,idO x≠idO o:=fun x hx e=>h.new x hx (Js (h.all x hx).1 h.ok e)
theorem StepOk.fresh (h:StepOk A o) (e:aG o=idO o):(¬KnownN A (aG o))/\∀x∈A,aG x≠aG o:=by
 have hk:¬KnownN A (aG o):=fun ⟨x,hx,_,_,q⟩=>h.idnew x hx (q.trans e)
 refine ⟨hk,fun x hx q=> ?_⟩
 rcases (h.all x hx).2.1 with ⟨_,k⟩ | k
 ·exact h.idnew x hx (by rw [k,q,e])
 rw [q] at k;exact hk k
theorem CG {A:List OpX} {o:OpX} {nd:Int} (h:KnownN (o::A) nd) (hn:nd≠idO o):KnownN A nd:=by
 obtain ⟨x,hx,q⟩:=h
 rcases jQ.1 hx with rfl | hx
 ·exact absurd q.2.2.symm hn
 exact ⟨x,hx,q⟩
theorem sB {A:List OpX} {o:OpX} {nd id:Int} (h:LetterN (o::A) nd id) (hn:id≠idO o):LetterN A nd id:=by
 obtain ⟨x,hx,q⟩:=h
 rcases jQ.1 hx with rfl | hx
 ·exact absurd q.2.2.symm hn
 exact ⟨x,hx,q⟩
theorem StepOk.node (h:StepOk A o) (e:aG o≠idO o):KnownN A (aG o):=by
 rcases h.refs.1 with ⟨_,q⟩ | q
 ·exact absurd q.symm e
 exact CG q e
theorem StepOk.letter (h:StepOk A o) (hk:(kdO o=105/\0<aF o)\/kdO o=100):LetterN A (aG o) (aF o):=by
 have:=(fZ h.ok).2.1
 exact sB (h.refs.2.2 hk) zj
theorem StepOk.line (h:StepOk A o) (hk:kdO o=105\/kdO o=100\/kdO o=115):aG o≠idO o:=by
 rcases (fZ h.ok).1 with ⟨q,_⟩ | q
 ·rw [q] at hk;rcases hk with k | k | k<;>exact absurd k zo
 omega
theorem StepOk.ungone (h:StepOk A o) (nd:Int):¬cr A nd (idO o):=fun ⟨x,hx,k,e1,e2⟩=>by
 obtain ⟨y,hy,_,_,q⟩:=(h.all x hx).2.2.2 (.inr k)
 exact h.idnew y hy (q.trans e2)
theorem kS :KnownN (o::A) nd↔KnownN A nd\/(kdO o=109/\aG o=nd/\idO o=nd):=by
 constructor
 ·rintro ⟨x,hx,q⟩
  rcases jQ.1 hx with rfl | hx
  ·exact .inr q
  exact .inl ⟨x,hx,q⟩
 rintro (⟨x,hx,q⟩ | q)
 ·exact ⟨x,vf _ hx,q⟩
 exact ⟨o,vr,q⟩
theorem tI {K ys:List OpX} (hW:WellK S) (hS:∀x,x∈S↔x∈K\/x∈ys) (hK:∀x∈K,RefOk K x) (hs:ys.Pairwise (fun a b=>CLt (stO a) (stO b))) (hoff:∀x∈ys,x∉K) {k:Nat} (ho:ys[k]? =some o):StepOk (K++ys.take k) o:=by
 have hoy:o∈ys:=jT ho
 have hkl:=(jI.1 ho).1
 have hsub:∀x,x∈K++ys.take k->x∈S:=fun x hx=>(hS x).2 ((jO.1 hx).imp (fun q=>q) (fun q=>uc q))
 have hp:=vO.1 hs
 have low:∀(j:Nat) (x y:OpX),ys[j]? =some x->y∈S->idO y<idO x->y∈K++ys.take j:=fun j x y hj hy hlt=>by
  have hxS:x∈S:=(hS x).2 (.inr (jT hj))
  have hc:=OF (hW.ok y hy) (hW.ok x hxS) hlt
  rcases (hS y).1 hy with q | q
  ·exact vg _ q
  obtain ⟨i,hi,rfl⟩:=uD q
  have hij:i<j:=by
   rcases Nat.lt_trichotomy i j with h | h | h
   ·exact h
   ·subst h
    rw [jK hi] at hj
    cases hj
    exact absurd hc dJ
   obtain ⟨hjl,rfl⟩:=jI.1 hj
   exact absurd (fC hc (hp j i hjl hi h)) dJ
  refine vB _ (jT (i:=i) ?_)
  rw [uf,if_pos hij]
  exact jK hi
 have refs:∀(j:Nat) (x:OpX),ys[j]? =some x->RefOk (x::(K++ys.take j)) x:=fun j x hj=>by
  have hxS:x∈S:=(hS x).2 (.inr (jT hj))
  have hr:=hW.refs x hxS
  have he:=fZ (hW.ok x hxS)
  have up:∀y,y∈S->idO y<idO x->y∈x::(K++ys.take j):=fun y hy hl=>vf _ (low j x y hj hy hl)
  refine ⟨?_,fun hk=> ?_,fun hk=> ?_⟩
  ·rcases hr.1 with q | ⟨y,hy,q1,q2,q3⟩
   ·exact .inl q
   rcases he.1 with ⟨q,q'⟩ | q
   ·by_cases e:idO x=aG x
    ·exact .inl ⟨q,e⟩
    exact .inr ⟨y,up y hy zj,q1,q2,q3⟩
   exact .inr ⟨y,up y hy zj,q1,q2,q3⟩
  ·rcases hr.2.1 hk with q | q | ⟨y,hy,q1,q2,q3⟩
   ·exact .inl q
   ·exact .inr (.inl q)
   exact .inr (.inr ⟨y,up y hy zj,q1,q2,q3⟩)
  obtain ⟨y,hy,q1,q2,q3⟩:=hr.2.2 hk
  exact ⟨y,up y hy zj,q1,q2,q3⟩
 refine ⟨hW.ok o ((hS o).2 (.inr hoy)),fun x hx e=> ?_,refs k o ho,fun x hx=>⟨hW.ok x (hsub x hx),?_⟩,fun x hx y hy e=>hW.stamp (hsub x hx) (hsub y hy) e⟩
 ·rcases jO.1 hx with q | q
  ·have:=hW.stamp (hsub x hx) ((hS o).2 (.inr hoy)) e
   subst this
   exact hoff x hoy q
  obtain ⟨i,hi,rfl⟩:=uD q
  have hi':i<k/\i<ys.length:=by rw [vj] at hi;omega
  have hc:=hp i k hi'.2 hkl hi'.1
  rw [List.getElem_take] at e
  rw [(jI.1 ho).2,e] at hc
  exact dJ hc
 rcases jO.1 hx with q | q
 ·exact (hK x q).mono (fun y hy=>vg _ hy)
 obtain ⟨i,hi,e⟩:=uD q
 have hi':i<k/\i<ys.length:=by rw [vj] at hi;omega
 rw [List.getElem_take] at e
 have hxi:ys[i]? =some x:=by rw [<-e];exact jK hi'.2
 refine (refs i x hxi).mono (fun y hy=> ?_)
 rcases jQ.1 hy with rfl | hy
 ·exact hx
 rcases jO.1 hy with hy | hy
 ·exact vg _ hy
 refine vB _ ?_
 have:ys.take i=(ys.take k).take i:=qG
 rw [this] at hy
 exact uc hy
end
section
open Go.RowKit Go.Lib Go.Sort
def kV (ao:Nat->Option Addr) (cap:Nat->Nat) (R:Rws):Value:=.agg #[.slice (ao 0) (R 0).length (cap 0),.slice (ao 1) (R 1).length (cap 1),.slice (ao 2) (R 2).length (cap 2),.slice (ao 3) (R 3).length (cap 3)]
def KnownAt (w:World) (ao:Nat->Option Addr) (R:Rws):Prop:=∀i,i<4->OpsIn w (ao i) (R i)
theorem KnownAt.later {w w':World} {ao:Nat->Option Addr} {R:Rws} (h:KnownAt w ao R) (hb:Below w.heap.size w w'):KnownAt w' ao R:=fun i hi=>(h i hi).later hb
def KBox (w:World) (b:Nat) (ao:Nat->Option Addr) (cap:Nat->Nat) (R:Rws):Prop:=w.heap[b]? =some (.cells #[.slice (ao 0) (R 0).length (cap 0),.slice (ao 1) (R 1).length (cap 1),.slice (ao 2) (R 2).length (cap 2),.slice (ao 3) (R 3).length (cap 3)] 112 (0,0))
theorem KBox.at {R:Rws} (h:KBox w b ao cap R) (hi:i<4):w.cell? ⟨b,i,none⟩=some (.slice (ao i) (R i).length (cap i)):=by
 unfold KBox at h
 match i,hi with
 | 0,_=>simp [World.cell?,h]
 | 1,_=>simp [World.cell?,h]
 | 2,_=>simp [World.cell?,h]
 | 3,_=>simp [World.cell?,h]
theorem KBox.fz {R:Rws} (h:KBox w b ao cap R) (o:Nat):w.frozen? ⟨b,o,none⟩=false:=by
 unfold KBox at h;simp [World.frozen?,h]
theorem KBox.lt {R:Rws} (h:KBox w b ao cap R):b<w.heap.size:=(jJ.1 h).1
theorem KBox.new (w:World) (ao:Nat->Option Addr) (cap:Nat->Nat) (R:Rws):KBox (w.alloc (.cells #[.slice (ao 0) (R 0).length (cap 0),.slice (ao 1) (R 1).length (cap 1),.slice (ao 2) (R 2).length (cap 2),.slice (ao 3) (R 3).length (cap 3)] 112)) w.heap.size ao cap R:=heap_alloc_new w _
theorem KBox.later {R:Rws} (h:KBox w b ao cap R) (hb:Below w.heap.size w w'):KBox w' b ao cap R:=(hb.block b h.lt).trans h
theorem OpsIn.get {ao:Option Addr} {xs:List OpX} (h:OpsIn w ao xs) (hi:xs[i]? =some x):∃blk off,ao=some ⟨blk,off,none⟩/\∀c u,(cN x)[c]? =some u->w.cell? ⟨blk,off+i*8+c,none⟩=some u:=by
 rcases h with h | ⟨b,o,h1,h2⟩
 ·subst h;simp at hi
 refine ⟨b,o,h1,fun c u hc=> ?_⟩
 have hl:=(jI.1 hi)
 have h8:c<8:=(jI.1 hc).1
 have e:=bW xs i c hl.1 h8
 rw [uj]
 refine h2 _ _ (e.trans ?_)
 rw [getElem!_pos xs i hl.1,hl.2,getElem!_pos _ c qi,<-(jI.1 hc).2]
theorem dM {fn:Func} {p u:Tmp} {ty:TypeId} (h:fn.results= #[.cell p ty,.tmp u]) (tmps:Array Value) (P:Program) (w:World):
  (results fn tmps).run P w=
   ((asAddr (tmps.getD p undef)).run P w).andThen fun a w1=>((loadVar ty a).run P w1).andThen fun v w2=>.ok (.tuple #[v,tmps.getD u undef]) w2:=by
 exact kk2
theorem wN (w:World) (ao:Nat->Option Addr) (cap:Nat->Nat) (R:Rws) (i n:Nat) (hi:i<4) (hx:(R i).length<=n):
  Calls prog 124 #[kV ao cap R,.int .i64 (i:Int),.int .i64 ((n:Int)+1)] w fun e w'=>e= .returned (.tuple #[ar aT,.bool false])/\Below w.heap.size w w':=by
 unfold kV
 have dn:decide (((R i).length:Int)<(n:Int)+1)=true:=zl
 have h4:i=0\/i=1\/i=2\/i=3:=zj
 rcases h4 with rfl | rfl | rfl | rfl
 all_goals
  go_enter func124,ntmps124
  go_wp2
  (try simp only [Exit.inBlock,Exit.then])
  refine bodyPost_ret (v:=.tuple #[ar aT,.bool false]) ?_ rfl ⟨rfl,?_⟩
  ·exact ke8
  exact (zh w _).alloc zq _
theorem tj (w:World) (ao:Nat->Option Addr) (cap:Nat->Nat) (R:Rws) (i n:Nat) (x:OpX) (hK:KnownAt w ao R) (hi:i<4) (hn:n<1000) (hx:(R i)[n]? =some x):
  Calls prog 124 #[kV ao cap R,.int .i64 (i:Int),.int .i64 ((n:Int)+1)] w fun e w'=>e= .returned (.tuple #[ar x,.bool true])/\Below w.heap.size w w':=by
 obtain ⟨blk,off,ha,hc⟩:=(hK i hi).get hx
 have hln:=(jI.1 hx).1
 obtain ⟨t,b,m,k,nd,o,s,v⟩:=x
 have hbl:blk<w.heap.size:=jR w ⟨blk,off+n*8+0,none⟩ (hc 0 _ rfl)
 have hcell:∀o1 o2 c u,(cN (t,b,m,k,nd,o,s,v))[c]? =some u->((w.alloc o1).alloc o2).cell? ⟨blk,off+n*8+c,none⟩=some u:=fun o1 o2 c u hu=>by
  rw [(((jN w.heap.size w).alloc zg o1).alloc zq o2).cell (p:=⟨blk,off+n*8+c,none⟩) hbl]
  exact hc c u hu
 have r0:=fun o1 o2=>hcell o1 o2 0 _ rfl
 have r1:=fun o1 o2=>hcell o1 o2 1 _ rfl
 have r2:=fun o1 o2=>hcell o1 o2 2 _ rfl
 have r3:=fun o1 o2=>hcell o1 o2 3 _ rfl
 have r4:=fun o1 o2=>hcell o1 o2 4 _ rfl
 have r5:=fun o1 o2=>hcell o1 o2 5 _ rfl
 have r6:=fun o1 o2=>hcell o1 o2 6 _ rfl
 have r7:=fun o1 o2=>hcell o1 o2 7 _ rfl
 simp only [vI] at r0
 clear hcell hc
 have dn:decide (((R i).length:Int)<(n:Int)+1)=false:=zl
 have en:((n:Int)+1 - 1)=(n:Int):=zj
 have wn:((n:Int)).toNat=n:=zj
 have pn:(0:Int)<=(n:Int):=zj
 have bn:(n:Int)<((R i).length:Int):=zj
 have h4:i=0\/i=1\/i=2\/i=3:=zj
 unfold kV ar
 rcases h4 with rfl | rfl | rfl | rfl
 all_goals
  rw [ha]
  clear ha
  go_enter func124,ntmps124
  go_wp2
  (try simp only [Exit.inBlock,Exit.then])
  refine bodyPost_ret (v:=.tuple #[.agg #[.int .i64 t,.int .i64 b,.int .i64 m,.int .u8 (k:Int),.int .i64 nd,.int .i64 o,.string s,.string v],.bool true]) ?_ rfl ⟨rfl,?_⟩
  ·exact kc4
  exact (zh w _).alloc zq _
end
section
theorem sX {R:Rws} (h:RowsK R) {l:List OpX} (hT:WellK T) (hc:Compat (aX R) T) (hl:∀x,x∈l->x∈T) (hl2:∀x,x∈T->x∈aX R\/x∈l) (hlen:(aX R).length+l.length<=400):∃fresh,(∀a,cX (aX R) l a->a= .inr fresh)/\FreshK (aX R) fresh/\(∀x,x∈aX R++fresh↔x∈aX R\/x∈T)/\WellK (aX R++fresh):=by
 obtain ⟨out,h1,h2⟩:=iD h.num.one hT.one hc hT.ok (l:=l) 0 (fresh:=[]) (fun x hx=>hl x hx) (fun x hx=>zP)
 obtain ⟨k1,k2,k3,k4,k5⟩:=co (dK _) h1
 have hmem:∀x,x∈aX R++out↔x∈aX R\/x∈T:=fun x=>by
  rw [jO]
  constructor
  ·rintro (q | q)
   ·exact .inl q
   exact .inr (h2 x q)
  rintro (q | q)
  ·exact .inl q
  rcases hl2 x q with q | q
  ·exact .inl q
  exact k4 x q
 have hw:WellK (aX R++out):=(h.well.union hT hc).congr (fun x=>by rw [jO];exact (hmem x).symm)
 refine ⟨out,fun a ha=> ?_,k1,hmem,hw⟩
 unfold cX at ha
 rw [h1] at ha
 dsimp only at ha
 rcases ha with ⟨⟨x,hx,q1,q2⟩,_⟩ | ⟨_,⟨x,hx,y,hy,q1,q2,q3⟩,_⟩ | ⟨_,_,⟨x,hx,q⟩,_⟩ | ⟨_,q,_⟩ | ⟨_,_,q⟩
 ·exact ((hw.gap x hx).elim q1 q2).elim
 ·exact (q3 (hw.rise x hx y hy q1 q2)).elim
 ·exact (q (hw.refs x hx)).elim
 ·simp at k5;omega
 exact q
structure NextOp (R:Rws) (i:Nat) (T:Int) (x:OpX):Prop where
 ok:bY x=0
 by_:byO x=(i:Int)
 num:ah x=((R i).length:Int)+1
 time:x.1=T+1
 refs:RefOk (x::aX R) x
theorem Jf {R:Rws} (h:NumK R) {i:Nat} (hi:i<4) {y:OpX} (hy:y∈aX R) (e:byO y=(i:Int)):ah y<=((R i).length:Int):=by
 obtain ⟨k,hk,hyk⟩:=mem_allR.1 hy
 obtain ⟨j,hj,q1,q2,_⟩:=h.get hk hyk
 have:k=i:=zj
 subst this
 have:=(jI.1 hj).1
 omega
theorem NextOp.well {R:Rws} {i:Nat} {T:Int} {x:OpX} (hx:NextOp R i T x) (hR:RowsK R) (hi:i<4) (hT:∀y∈aX R,y.1<=T):WellK (x::aX R)/\∀y∈aX R,byO y=byO x->ah y<ah x:=by
 have hnew:∀y∈aX R,byO y=byO x->ah y<ah x:=fun y hy e=>by
  have:=Jf hR.num hi hy (e.trans hx.by_)
  have:=hx.num
  omega
 refine ⟨hR.well.add hx.ok ?_ hnew (fun y hy=> ?_) hx.refs,hnew⟩
 ·by_cases h0:(R i).length=0
  ·left
   have:=hx.num
   omega
  right
  have hl:(R i).length - 1<(R i).length:=zj
  have hm:(R i)[(R i).length - 1]∈R i:=List.getElem_mem hl
  obtain ⟨j,hj,q1,q2,_⟩:=hR.num.get hi hm
  have hlast:=hR.num i hi ((R i).length - 1) _ (jK hl)
  refine ⟨(R i)[(R i).length - 1],mem_allR.2 ⟨i,hi,hm⟩,by rw [q1,hx.by_],?_⟩
  have h3:=hlast.2.1
  have:=hx.num
  omega
 have h1:=hT y hy
 have h2:=hx.time
 unfold CLt stO
 dsimp only
 omega
theorem Be {R:Rws} {T:Int} (hx:NextOp R i T x) (hR:RowsK R) (hi:i<4) (hT:∀y∈aX R,y.1<=T):Compat (aX R) (x::aX R):=fun a ha b hb e1 e2=>by
 rcases jQ.1 hb with rfl | hb
 ·have:=(hx.well hR hi hT).2 a ha e1
  omega
 exact hR.well.one a ha b hb e1 e2
theorem NumK.nodup {R:Rws} (h:NumK R):(aX R).Nodup:=by
 have row:∀i,i<4->(R i).Nodup:=fun i hi=>by
  unfold List.Nodup
  rw [vO]
  intro a b ha hb hab e
  have h1:=h i hi a _ (jK ha)
  have h2:=h i hi b _ (jK hb)
  rw [e] at h1
  have:=h1.2.1
  have:=h2.2.1
  omega
 have off:∀i j,i<4->j<4->i≠j->∀a∈R i,∀b∈R j,a≠b:=fun i j hi hj hij a ha b hb e=>by
  obtain ⟨_,_,q1,_⟩:=h.get hi ha
  obtain ⟨_,_,q2,_⟩:=h.get hj hb
  rw [e] at q1
  omega
 unfold aX
 simp only [vM,jO]
 refine ⟨row 0 zj,⟨row 1 zj,⟨row 2 zj,row 3 zj,off 2 3 zj zj zj⟩,fun a ha b hb=> ?_⟩,fun a ha b hb=> ?_⟩
 ·rcases hb with hb | hb
  ·exact off 1 2 zj zj zj a ha b hb
  exact off 1 3 zj zj zj a ha b hb
 rcases hb with hb | hb | hb
 ·exact off 0 1 zj zj zj a ha b hb
 ·exact off 0 2 zj zj zj a ha b hb
 exact off 0 3 zj zj zj a ha b hb
theorem dD {α:Type} [DecidableEq α]:∀ {l H:List α},l.Nodup->(∀x,x∈l->x∈H)->l.length<=H.length
 | [],_,_,_=>jX _
 | x::t,H,hn,hs=>by
  obtain ⟨h1,h2⟩:=List.nodup_cons.1 hn
  have hx:x∈H:=hs x zq
  have:=dD (l:=t) (H:=H.erase x) h2 (fun y hy=>(List.mem_erase_of_ne (fun e=>h1 (by rw [<-e];exact hy))).2 (hs y xE))
  rw [List.length_erase_of_mem hx] at this
  have hp:0<H.length:=List.length_pos_of_mem hx
  rw [jY]
  omega
