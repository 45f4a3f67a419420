import Derived.Test.YtebpcnkdhgnghaaGreatDoorPM01
import Derived.Test.YtebpcnkdhgnghaaGreatDoorPM02
set_option linter.unusedSimpArgs false
set_option linter.unusedVariables false
set_option maxHeartbeats 64000000
namespace Go.Proofs.YtebpcnkdhgnghaaGreatDoor
open Go.Proofs.Tryz
variable {b id n nd:Int} {L:List Ltr} {A B S T t:List OpX} {f:Ltr→Ltr} {i:Nat} {o x y:OpX}
section
def ai (x:OpX):Nat:=opE x.1 x.2.1 x.2.2.1 x.2.2.2.1 x.2.2.2.2.1 x.2.2.2.2.2.1 x.2.2.2.2.2.2.1.data.toList x.2.2.2.2.2.2.2.data.toList
def LX (x:OpX):bU:=(x.2.2.2.2.1,x.2.2.2.2.2.2.1)
def oG (x:OpX):aG:=(x.2.2.2.2.2.2.2,(x.1,x.2.1))
def BM (x:OpX):Option (bU×aG):=if ai x=0/\x.2.2.2.1=115 then some (LX x,oG x) else none
def fI (xs:List OpX):List (bU×aG):=xs.filterMap BM
theorem CO (xs ys:List OpX):fI (xs++ys)=fI xs++fI ys:=List.filterMap_append
def du (xs:List OpX):cA:=lu (fI xs) noC
def ku (f:cA) (x:OpX):cA:=if ai x=0/\x.2.2.2.1=115 then lw f (LX x,oG x) else f
theorem kW (xs:List OpX) (x:OpX):du (xs++ [x])=ku (du xs) x:=by
 unfold du ku;rw [CO];by_cases h:ai x=0/\x.2.2.2.1=115
 ·have e:fI [x]= [(LX x,oG x)]:=by simp [fI,BM,h]
  rw [e,nP,if_pos h]
 have e:fI [x]= []:=by simp [fI,BM,h]
 rw [e,uQ,if_neg h]
def OneO (xs:List OpX):Prop:=∀x∈xs,∀y∈xs,x.1=y.1->x.2.1=y.2.1->x=y
theorem kS {m:bU×aG} (h:BM x=some m):m=(LX x,oG x):=by
 unfold BM at h;split at h
 ·exact (Option.some.inj h).symm
 cases h
theorem OneO.marks {xs:List OpX} (h:OneO xs):OK (fI xs):=by
 intro k c d hc hd e;obtain ⟨x,hx,ex⟩:=Zl.1 hc;obtain ⟨y,hy,ey⟩:=Zl.1 hd;have e1:=kS ex;have e2:=kS ey;have c1:c=oG x:=(Prod.mk.inj e1).2;have d1:d=oG y:=(Prod.mk.inj e2).2;subst c1;subst d1;have e3:(x.1,x.2.1)=(y.1,y.2.1):=e;rw [h x hx y hy (Prod.mk.inj e3).1 (Prod.mk.inj e3).2]
end
section
abbrev byO (x:OpX):Int:=x.2.1
abbrev aw (x:OpX):Int:=x.2.2.1
abbrev kdO (x:OpX):Nat:=x.2.2.2.1
abbrev aM (x:OpX):Int:=x.2.2.2.2.1
abbrev aN (x:OpX):Int:=x.2.2.2.2.2.1
def idO (x:OpX):Int:=x.1*4+x.2.1
def stO (x:OpX):Int×Int:=(x.1,x.2.1)
def KnownN (S:List OpX) (nd:Int):Prop:=∃x∈S,kdO x=109/\aM x=nd/\idO x=nd
def LetterN (S:List OpX) (nd id:Int):Prop:=∃x∈S,kdO x=105/\aM x=nd/\idO x=id
def RefOk (S:List OpX) (x:OpX):Prop:=((kdO x=109/\idO x=aM x)\/KnownN S (aM x))/\(kdO x=109->aN x=0\/aN x=1\/KnownN S (aN x))/\((kdO x=105/\0<aN x)\/kdO x=100->LetterN S (aM x) (aN x))
theorem KnownN.mono (h:∀x,x∈S->x∈T) (k:KnownN S nd):KnownN T nd:=by
 obtain ⟨x,hx,k⟩:=k;exact ⟨x,h x hx,k⟩
theorem LetterN.mono (h:∀x,x∈S->x∈T) (k:LetterN S nd id):LetterN T nd id:=by
 obtain ⟨x,hx,k⟩:=k;exact ⟨x,h x hx,k⟩
theorem RefOk.mono {S T:List OpX} (h:∀x,x∈S->x∈T) {x:OpX} (k:RefOk S x):RefOk T x:=
 ⟨k.1.imp (fun e=>e) (KnownN.mono h),fun e=>(k.2.1 e).imp (fun e=>e) (fun e=>e.imp (fun e=>e) (KnownN.mono h)),fun e=>(k.2.2 e).mono h⟩
structure WellK (S:List OpX):Prop where
 ok:∀x∈S,ai x=0
 one:∀x∈S,∀y∈S,byO x=byO y->aw x=aw y->x=y
 gap:∀x∈S,aw x=1\/∃y∈S,byO y=byO x/\aw y+1=aw x
 rise:∀x∈S,∀y∈S,byO x=byO y->aw x+1=aw y->CLt (stO x) (stO y)
 refs:∀x∈S,RefOk S x
theorem iM:WellK []:=⟨fun x h=>qq,fun x h=>qq,fun x h=>qq,fun x h=>qq,fun x h=>qq⟩
theorem WellK.congr (h:WellK S) (e:∀x,x∈S↔x∈T):WellK T:=
 ⟨fun x hx=>h.ok x ((e x).2 hx),fun x hx y hy=>h.one x ((e x).2 hx) y ((e y).2 hy),fun x hx=>(h.gap x ((e x).2 hx)).imp (fun q=>q) (fun ⟨y,hy,q⟩=>⟨y,(e y).1 hy,q⟩),fun x hx y hy=>h.rise x ((e x).2 hx) y ((e y).2 hy),fun x hx=>(h.refs x ((e x).2 hx)).mono (fun y hy=>(e y).1 hy)⟩
def Compat (S T:List OpX):Prop:=∀x∈S,∀y∈T,byO x=byO y->aw x=aw y->x=y
theorem Compat.symm {S T:List OpX} (h:Compat S T):Compat T S:=fun x hx y hy e1 e2=>(h y hy x hx e1.symm e2.symm).symm
theorem oM (h:ai x=0):1<=aw x:=(ar h).2.2.2.2.1
theorem WellK.union (hS:WellK S) (hT:WellK T) (hc:Compat S T):WellK (S++T):=by
 have across:∀ {A B:List OpX},WellK A->WellK B->Compat A B->∀x∈A,∀y∈B,byO x=byO y->aw x+1=aw y->CLt (stO x) (stO y):=fun {A B} hA hB hAB x hx y hy e1 e2=>by
  rcases hB.gap y hy with q | ⟨z,hz,z1,z2⟩
  ·have:=oM (hA.ok x hx);omega
  obtain rfl:=hAB x hx z hz zj zj;exact hB.rise x hz y hy e1 e2
 refine ⟨fun x hx=> ?_,fun x hx y hy e1 e2=> ?_,fun x hx=> ?_,fun x hx y hy e1 e2=> ?_,fun x hx=> ?_⟩
 ·rcases vL.1 hx with h | h
  ·exact hS.ok x h
  exact hT.ok x h
 ·rcases vL.1 hx with h | h<;>rcases vL.1 hy with k | k
  ·exact hS.one x h y k e1 e2
  ·exact hc x h y k e1 e2
  ·exact hc.symm x h y k e1 e2
  exact hT.one x h y k e1 e2
 ·rcases vL.1 hx with h | h
  ·exact (hS.gap x h).imp (fun q=>q) (fun ⟨y,hy,q⟩=>⟨y,uk _ hy,q⟩)
  exact (hT.gap x h).imp (fun q=>q) (fun ⟨y,hy,q⟩=>⟨y,uI _ hy,q⟩)
 ·rcases vL.1 hx with h | h<;>rcases vL.1 hy with k | k
  ·exact hS.rise x h y k e1 e2
  ·exact across hS hT hc x h y k e1 e2
  ·exact across hT hS hc.symm x h y k e1 e2
  exact hT.rise x h y k e1 e2
 rcases vL.1 hx with h | h
 ·exact (hS.refs x h).mono (fun y hy=>uk _ hy)
 exact (hT.refs x h).mono (fun y hy=>uI _ hy)
theorem WellK.less {S:List OpX} (h:WellK S) {x:OpX} (hx:x∈S):∀(d:Nat) {y:OpX},y∈S->byO x=byO y->aw x+(d+1)=aw y->CLt (stO x) (stO y)
 | 0,y,hy,e1,e2=>h.rise x hx y hy e1 zj
 | d+1,y,hy,e1,e2=>by
  rcases h.gap y hy with q | ⟨z,hz,z1,z2⟩
  ·have:=oM (h.ok x hx);omega
  exact fi (h.less hx d hz zj zj) (h.rise z hz y hy z1 z2)
theorem WellK.stamp (h:WellK S) (hx:x∈S) (hy:y∈S) (e:stO x=stO y):x=y:=by
 have e1:byO x=byO y:=(Prod.mk.inj e).2
 rcases Int.lt_trichotomy (aw x) (aw y) with q | q | q
 ·have:=h.less hx (aw y - aw x - 1).toNat hy e1 zj;exact kk9
 ·exact h.one x hx y hy e1 q
 have:=h.less hy (aw x - aw y - 1).toNat hx e1.symm zj;exact kk9
theorem WellK.add {S:List OpX} (h:WellK S) {x:OpX} (hok:ai x=0) (hn:aw x=1\/∃y∈S,byO y=byO x/\aw y+1=aw x) (hnew:∀y∈S,byO y=byO x->aw y<aw x) (hst:∀y∈S,CLt (stO y) (stO x)) (hr:RefOk (x::S) x):WellK (x::S):=by
 have sub:∀y,y∈S->y∈x::S:=fun y hy=>ug _ hy
 refine ⟨fun y hy=> ?_,fun y hy z hz e1 e2=> ?_,fun y hy=> ?_,fun y hy z hz e1 e2=> ?_,fun y hy=> ?_⟩
 ·rcases vJ.1 hy with rfl | hy
  ·exact hok
  exact h.ok y hy
 ·rcases vJ.1 hy with e | ky<;>rcases vJ.1 hz with e' | kz
  ·rw [e,e']
  ·rw [e] at e1 e2;have:=hnew z kz e1.symm;omega
  ·rw [e'] at e1 e2;have:=hnew y ky e1;omega
  exact h.one y ky z kz e1 e2
 ·rcases vJ.1 hy with e | hy
  ·subst e;exact hn.imp (fun q=>q) (fun ⟨z,hz,q⟩=>⟨z,sub z hz,q⟩)
  exact (h.gap y hy).imp (fun q=>q) (fun ⟨z,hz,q⟩=>⟨z,sub z hz,q⟩)
 ·rcases vJ.1 hy with e | ky<;>rcases vJ.1 hz with e' | kz
  ·rw [e,e'] at e2;omega
  ·rw [e] at e1 e2;have:=hnew z kz e1.symm;omega
  ·rw [e'];exact hst y ky
  exact h.rise y ky z kz e1 e2
 rcases vJ.1 hy with e | hy
 ·rw [e];exact hr
 exact (h.refs y hy).mono sub
structure Ov (n:Nat) (K:Nat->List OpX):Prop where
 well:∀r,r<n->WellK (K r)
 compat:∀r,r<n->∀s,s<n->Compat (K r) (K s)
 own:∀r,r<n->∀s,s<n->∀x∈K r,byO x=(s:Int)->x∈K s
end
section
def ax (S:List OpX) (b n:Int):Option OpX:=S.find? (fun x=>decide (byO x=b/\aw x=n))
theorem eD (h:ax S b n=some x):x∈S/\byO x=b/\aw x=n:=by
 unfold ax at h;exact kq5
theorem lookK_none :ax S b n=none↔∀x∈S,¬(byO x=b/\aw x=n):=by
 unfold ax;rw [List.find?_eq_none];simp
theorem iY (S T:List OpX) (b n:Int):ax (S++T) b n=(ax S b n).or (ax T b n):=by
 unfold ax;rw [List.find?_append]
theorem oS (h1:∀x∈S,∀y∈S,byO x=byO y->aw x=aw y->x=y) (hx:x∈S):ax S (byO x) (aw x)=some x:=by
 cases h:ax S (byO x) (aw x) with
 | none=>exact absurd ⟨rfl,rfl⟩ (lookK_none.1 h x hx)
 | some y=>
  obtain ⟨a,b,c⟩:=eD h;rw [h1 x hx y a b.symm c.symm]
def Kz (x y:OpX):Bool:=decide (x.1=y.1/\x.2.1=y.2.1/\x.2.2.1=y.2.2.1/\x.2.2.2.1=y.2.2.2.1/\x.2.2.2.2.1=y.2.2.2.2.1/\x.2.2.2.2.2.1=y.2.2.2.2.2.1/\x.2.2.2.2.2.2.1.data.toList=y.2.2.2.2.2.2.1.data.toList/\x.2.2.2.2.2.2.2.data.toList=y.2.2.2.2.2.2.2.data.toList)
theorem pO {a b:ByteArray} (h:a.data.toList=b.data.toList):a=b:=by
 cases a;cases b
 simpa [Array.toList_inj] using h
theorem sameX_iff :Kz x y=true↔x=y:=by
 unfold Kz;rw [decide_eq_true_iff];constructor
 ·intro h;obtain ⟨a,b,c,d,e,f,g,i⟩:=x;obtain ⟨a',b',c',d',e',f',g',i'⟩:=y;obtain ⟨h1,h2,h3,h4,h5,h6,h7,h8⟩:=h;simp only at h1 h2 h3 h4 h5 h6 h7 h8;rw [h1,h2,h3,h4,h5,h6,pO h7,pO h8]
 intro h;rw [h];exact ⟨rfl,rfl,rfl,rfl,rfl,rfl,rfl,rfl⟩
def bw (S:List OpX):Nat->List OpX->List OpX->(Nat×Nat)⊕List OpX
 | _,fresh,[]=>.inr fresh
 | i,fresh,o::t=>if ai o=0 then (match ax (S++fresh) (byO o) (aw o) with
   | none=>bw S (i+1) (fresh++ [o]) t
   | some x=>if Kz x o=true then bw S (i+1) fresh t else .inl (i,7)) else .inl (i,ai o)
theorem gV {fresh:List OpX} (h:ai o≠0):bw S i fresh (o::t)= .inl (i,ai o):=by
 rw [bw,if_neg h]
theorem ee {fresh:List OpX} (h:ai o=0) (hl:ax (S++fresh) (byO o) (aw o)=none):bw S i fresh (o::t)=bw S (i+1) (fresh++ [o]) t:=by
 rw [bw,if_pos h,hl]
theorem dS {fresh:List OpX} (h:ai o=0) (hl:ax (S++fresh) (byO o) (aw o)=some o):bw S i fresh (o::t)=bw S (i+1) fresh t:=by
 rw [bw,if_pos h,hl];exact if_pos (sameX_iff.2 rfl)
theorem ce {fresh:List OpX} (h:ai o=0) (hl:ax (S++fresh) (byO o) (aw o)=some x) (hx:x≠o):bw S i fresh (o::t)= .inl (i,7):=by
 rw [bw,if_pos h,hl];exact if_neg (fun q=>hx (sameX_iff.1 q))
structure FreshK (S fresh:List OpX):Prop where
 ok:∀x∈fresh,ai x=0
 off:∀x∈fresh,∀y∈S,¬(byO y=byO x/\aw y=aw x)
 one:fresh.Pairwise (fun x y=>¬(byO x=byO y/\aw x=aw y))
theorem cL (S:List OpX):FreshK S []:=⟨fun x h=>qq,fun x h=>qq,List.Pairwise.nil⟩
theorem FreshK.snoc {fresh:List OpX} (h:FreshK S fresh) (ho:ai o=0) (hl:ax (S++fresh) (byO o) (aw o)=none):FreshK S (fresh++ [o]):=by
 have hn:=lookK_none.1 hl;refine ⟨fun x hx=> ?_,fun x hx=> ?_,?_⟩
 ·rcases vL.1 hx with h1 | h1
  ·exact h.ok x h1
  rw [vR.1 h1];exact ho
 ·rcases vL.1 hx with h1 | h1
  ·exact h.off x h1
  rw [vR.1 h1]
  exact fun y hy=>hn y (uk _ hy)
 refine uX.2 ⟨h.one,ZA _ _,fun x hx y hy=> ?_⟩;rw [vR.1 hy];exact hn x (uI _ hx)
theorem dY {S:List OpX} :∀ {l:List OpX} {i:Nat} {fresh out:List OpX},FreshK S fresh->bw S i fresh l= .inr out->FreshK S out/\(∀x,x∈out->x∈fresh\/x∈l)/\(∀x,x∈fresh->x∈out)/\(∀x∈l,x∈S\/x∈out)/\out.length<=fresh.length+l.length
 | [],_,_,_,hF,h=>by
  rw [bw] at h
  cases h
  exact ⟨hF,fun x hx=>.inl hx,fun x hx=>hx,fun x hx=>zW,zt⟩
 | o::t,i,fresh,out,hF,h=>by
  by_cases ho:ai o=0
  ·cases hl:ax (S++fresh) (byO o) (aw o) with
   | none=>
    rw [ee ho hl] at h;obtain ⟨k1,k2,k3,k4,k5⟩:=dY (hF.snoc ho hl) h;refine ⟨k1,fun x hx=> ?_,fun x hx=>k3 x (uk _ hx),fun x hx=> ?_,by simp at k5 |-;omega⟩
    ·rcases k2 x hx with q | q
     ·rcases vL.1 q with q | q
      ·exact .inl q
      exact .inr (by rw [vR.1 q];exact uu)
     exact .inr (ug _ q)
    rcases vJ.1 hx with rfl | hx
    ·exact .inr (k3 x zt)
    exact k4 x hx
   | some x=>
    by_cases hx:x=o
    ·subst hx;rw [dS ho hl] at h;obtain ⟨k1,k2,k3,k4,k5⟩:=dY hF h;refine ⟨k1,fun y hy=>(k2 y hy).imp (fun q=>q) (fun q=>ug _ q),k3,fun y hy=> ?_,by simp at k5 |-;omega⟩
     rcases vJ.1 hy with rfl | hy
     ·rcases vL.1 (eD hl).1 with q | q
      ·exact .inl q
      exact .inr (k3 _ q)
     exact k4 y hy
    rw [ce ho hl hx] at h
    cases h
  rw [gV ho] at h
  cases h
theorem mL {S T:List OpX} (h1:∀x∈S,∀y∈S,byO x=byO y->aw x=aw y->x=y) (hT:∀x∈T,∀y∈T,byO x=byO y->aw x=aw y->x=y) (hc:Compat S T) (hok:∀x∈T,ai x=0):
  ∀ {l:List OpX} (i:Nat) {fresh:List OpX},(∀x∈l,x∈T)->(∀x∈fresh,x∈T)->∃out,bw S i fresh l= .inr out/\∀x∈out,x∈T
 | [],i,fresh,_,hf=>⟨fresh,rfl,hf⟩
 | o::t,i,fresh,hl,hf=>by
  have ho:=hok o (hl o uu)
  cases hk:ax (S++fresh) (byO o) (aw o) with
  | none=>
   rw [ee ho hk];refine mL h1 hT hc hok (i+1) (fun x hx=>hl x (ug _ hx)) (fun x hx=> ?_)
   rcases vL.1 hx with q | q
   ·exact hf x q
   rw [vR.1 q];exact hl o uu
  | some x=>
   obtain ⟨a,b,c⟩:=eD hk
   have hx:x=o:=by
    rcases vL.1 a with q | q
    ·exact hc x q o (hl o uu) b c
    exact hT x (hf x q) o (hl o uu) b c
   subst hx;rw [dS ho hk];exact mL h1 hT hc hok (i+1) (fun x hx=>hl x (ug _ hx)) hf
abbrev Rws:=Nat->List OpX
def aQ (R:Rws):List OpX:=R 0++(R 1++(R 2++R 3))
theorem mem_allR {R:Rws} :x∈aQ R↔∃i,i<4/\x∈R i:=by
 unfold aQ;simp only [vL];constructor
 ·rintro (h | h | h | h)
  ·exact ⟨0,zj,h⟩
  ·exact ⟨1,zj,h⟩
  ·exact ⟨2,zj,h⟩
  exact ⟨3,zj,h⟩
 rintro ⟨i,hi,h⟩
 match i,hi with
 | 0,_=>exact .inl h
 | 1,_=>exact .inr (.inl h)
 | 2,_=>exact .inr (.inr (.inl h))
 | 3,_=>exact .inr (.inr (.inr h))
def NumK (R:Rws):Prop:=∀i:Nat,i<4->∀(j:Nat) (x:OpX),(R i)[j]? =some x->byO x=(i:Int)/\aw x=(j:Int)+1/\ai x=0
def upR (R:Rws) (i:Nat) (l:List OpX):Rws:=fun j=>if j=i then l else R j
theorem IU:NumK (fun _=>[]):=fun i _ j x h=>qq
theorem Ar (h:ai x=0):∃i:Nat,i<4/\byO x=(i:Int)/\(byO x).toNat=i:=by
 have h0:=ar h;have h1:0<=byO x:=h0.2.2.1;have h2:byO x<4:=h0.2.2.2.1;exact ⟨(byO x).toNat,zj,zj,rfl⟩
theorem NumK.get {R:Rws} (h:NumK R) (hi:i<4) (hx:x∈R i):∃j:Nat,(R i)[j]? =some x/\byO x=(i:Int)/\aw x=(j:Int)+1/\ai x=0:=by
 obtain ⟨j,hj,rfl⟩:=uJ hx;have e:=vF hj;exact ⟨j,e,h i hi j _ e⟩
theorem NumK.one {R:Rws} (h:NumK R):∀x∈aQ R,∀y∈aQ R,byO x=byO y->aw x=aw y->x=y:=by
 intro x hx y hy e1 e2;obtain ⟨i,hi,hx⟩:=mem_allR.1 hx;obtain ⟨k,hk,hy⟩:=mem_allR.1 hy;obtain ⟨j,a1,a2,a3,_⟩:=h.get hi hx;obtain ⟨j',b1,b2,b3,_⟩:=h.get hk hy;obtain rfl:i=k:=zj;obtain rfl:j=j':=zj;rw [a1] at b1;exact Option.some.inj b1
theorem NumK.ok {R:Rws} (h:NumK R):∀x∈aQ R,ai x=0:=by
 intro x hx;obtain ⟨i,hi,hx⟩:=mem_allR.1 hx;obtain ⟨_,_,_,_,h⟩:=h.get hi hx;exact h
theorem NumK.gap {R:Rws} (h:NumK R):∀x∈aQ R,aw x=1\/∃y∈aQ R,byO y=byO x/\aw y+1=aw x:=by
 intro x hx;obtain ⟨i,hi,hx⟩:=mem_allR.1 hx;obtain ⟨j,a1,a2,a3,_⟩:=h.get hi hx
 cases j with
 | zero=>exact .inl zj
 | succ j=>
  have hl:=(vA.1 a1).1;have e:=vF (show j<(R i).length by omega);obtain ⟨b1,b2,_⟩:=h i hi j _ e;exact .inr ⟨_,mem_allR.2 ⟨i,hi,vH e⟩,zj,zj⟩
theorem NumK.look {R:Rws} (h:NumK R) {n:Nat} (hi:i<4):ax (aQ R) (i:Int) ((n:Int)+1)=(R i)[n]? :=by
 cases e:(R i)[n]? with
 | none=>
  refine lookK_none.2 (fun x hx ⟨e1,e2⟩=> ?_);obtain ⟨k,hk,hx⟩:=mem_allR.1 hx;obtain ⟨j,a1,a2,a3,_⟩:=h.get hk hx;obtain rfl:k=i:=zj;obtain rfl:j=n:=zj;rw [a1] at e
  cases e
 | some x=>
  obtain ⟨b1,b2,_⟩:=h i hi n x e;rw [<-b1,<-b2];exact oS h.one (mem_allR.2 ⟨i,hi,vH e⟩)
theorem iy {R:Rws} (hi:i<4) :x∈aQ (upR R i (R i++ [o]))↔x∈aQ R\/x=o:=by
 constructor
 ·intro h;obtain ⟨k,hk,h⟩:=mem_allR.1 h;unfold upR at h;split at h
  ·rename_i e;subst e
   rcases vL.1 h with h | h
   ·exact .inl (mem_allR.2 ⟨_,hk,h⟩)
   exact .inr (vR.1 h)
  exact .inl (mem_allR.2 ⟨k,hk,h⟩)
 rintro (h | rfl)
 ·obtain ⟨k,hk,h⟩:=mem_allR.1 h;refine mem_allR.2 ⟨k,hk,?_⟩;unfold upR;split
  ·rename_i e;subst e;exact uk _ h
  exact h
 refine mem_allR.2 ⟨i,hi,?_⟩;unfold upR;rw [if_pos rfl];simp
theorem NumK.up {R:Rws} (h:NumK R) {i:Nat} {o:OpX} (ho:ai o=0) (hb:byO o=(i:Int)) (hn:aw o=((R i).length:Int)+1):NumK (upR R i (R i++ [o])):=by
 intro k hk j x hx;unfold upR at hx;split at hx
 ·rename_i e;subst e;rw [List.getElem?_append] at hx;split at hx
  ·exact h _ hk j x hx
  rename_i hj;obtain ⟨d,hd⟩:=zc (j - (R k).length);rw [<-hd] at hx
  cases d with
  | zero=>
   cases hx
   exact ⟨hb,zj,ho⟩
  | succ d=>simp at hx
 exact h k hk j x hx
def Gap (S:List OpX):Prop:=∃x∈S,aw x≠1/\¬∃y∈S,byO y=byO x/\aw y+1=aw x
def Falls (S:List OpX):Prop:=∃x∈S,∃y∈S,byO x=byO y/\aw x+1=aw y/\¬CLt (stO x) (stO y)
theorem Gap.congr (e:∀x,x∈S↔x∈T) (h:Gap S):Gap T:=by
 obtain ⟨x,hx,h1,h2⟩:=h;exact ⟨x,(e x).1 hx,h1,fun ⟨y,hy,q⟩=>h2 ⟨y,(e y).2 hy,q⟩⟩
theorem Falls.congr (e:∀x,x∈S↔x∈T) (h:Falls S):Falls T:=by
 obtain ⟨x,hx,y,hy,q⟩:=h;exact ⟨x,(e x).1 hx,y,(e y).1 hy,q⟩
theorem NumK.nogap {R:Rws} (h:NumK R):¬Gap (aQ R):=fun ⟨x,hx,h1,h2⟩=>by
 rcases h.gap x hx with q | q
 ·exact h1 q
 exact h2 q
def fX (l:List OpX) (o:OpX):Bool:=match l.getLast? with
 | none=>true
 | some y=>decide (CLt (stO y) (stO o))
def dQ:Rws->Bool->List OpX->Option (Rws×Bool)
 | R,z,[]=>some (R,z)
 | R,z,o::t=>if aw o=((R (byO o).toNat).length:Int)+1 then dQ (upR R (byO o).toNat (R (byO o).toNat++ [o])) (z &&fX (R (byO o).toNat) o) t else none
theorem Ih {R:Rws} (h:NumK R) {i:Nat} (hi:i<4) {o:OpX} (hb:byO o=(i:Int)) (hn:aw o=((R i).length:Int)+1):Falls (aQ (upR R i (R i++ [o])))↔Falls (aQ R)\/fX (R i) o=false:=by
 have hlast:∀y,(R i).getLast? =some y->y∈aQ R/\byO y=byO o/\aw y+1=aw o:=fun y hy=>by
  have hy':(R i)[(R i).length - 1]? =some y:=by rw [<-List.getLast?_eq_getElem?];exact hy
  have hl:=(vA.1 hy').1;obtain ⟨a,b,_⟩:=h i hi _ y hy';exact ⟨mem_allR.2 ⟨i,hi,vH hy'⟩,zj,zj⟩
 constructor
 ·rintro ⟨x,hx,y,hy,e1,e2,e3⟩
  rcases (iy hi).1 hx with hx1 | rfl
  ·rcases (iy hi).1 hy with hy1 | rfl
   ·exact .inl ⟨x,hx1,y,hy1,e1,e2,e3⟩
   refine .inr ?_;obtain ⟨k,hk,hx'⟩:=mem_allR.1 hx1;obtain ⟨j,a1,a2,a3,_⟩:=h.get hk hx';obtain rfl:k=i:=zj;have hj:j=(R k).length - 1:=zj
   have hlst:(R k).getLast? =some x:=by rw [List.getLast?_eq_getElem?,<-hj];exact a1
   unfold fX;rw [hlst];exact decide_eq_false e3
  exfalso
  rcases (iy hi).1 hy with hy | rfl
  ·obtain ⟨k,hk,hy'⟩:=mem_allR.1 hy;obtain ⟨j,a1,a2,a3,_⟩:=h.get hk hy';obtain rfl:k=i:=zj;have:=(vA.1 a1).1;omega
  omega
 rintro (⟨x,hx,y,hy,q⟩ | hr)
 ·exact ⟨x,(iy hi).2 (.inl hx),y,(iy hi).2 (.inl hy),q⟩
 unfold fX at hr
 cases hl:(R i).getLast? with
 | none=>rw [hl] at hr;cases hr
 | some y=>
  rw [hl] at hr;obtain ⟨a,b,c⟩:=hlast y hl;exact ⟨y,(iy hi).2 (.inl a),o,(iy hi).2 (.inr rfl),b,c,of_decide_eq_false hr⟩
theorem pA:∀(F:List OpX) (R:Rws) (z:Bool),NumK R->FreshK (aQ R) F->F.Pairwise (fun a b=>aw a<=aw b)->(z=true↔¬Falls (aQ R))->
  (dQ R z F=none/\Gap (aQ R++F))\/∃R' z',dQ R z F=some (R',z')/\¬Gap (aQ R++F)/\NumK R'/\(∀x,x∈aQ R'↔x∈aQ R++F)/\(z'=true↔¬Falls (aQ R++F))/\(aQ R').length=(aQ R).length+F.length/\∀i,∃t,R' i=R i++t
 | [],R,z,hN,_,_,hz=>.inr ⟨R,z,rfl,by rw [uQ];exact hN.nogap,hN,fun x=>by rw [uQ],by rw [uQ];exact hz,zt,fun i=>⟨[],zt⟩⟩
 | o::t,R,z,hN,hF,hs,hz=>by
  have ho:=hF.ok o uu;obtain ⟨i,hi,hb,hbn⟩:=Ar ho;by_cases hn:aw o=((R i).length:Int)+1
  ·have hN1:=hN.up ho hb hn
   have hF1:FreshK (aQ (upR R i (R i++ [o]))) t:=by
    refine ⟨fun x hx=>hF.ok x (ug _ hx),fun x hx y hy=> ?_,(um.1 hF.one).2⟩
    rcases (iy hi).1 hy with hy | rfl
    ·exact hF.off x (ug _ hx) y hy
    exact (um.1 hF.one).1 x hx
   have hz1:(z &&fX (R i) o)=true↔¬Falls (aQ (upR R i (R i++ [o]))):=by
    rw [Ih hN hi hb hn,uL,hz]
    cases fX (R i) o<;>simp
   have hmem:∀x,x∈aQ (upR R i (R i++ [o]))++t↔x∈aQ R++o::t:=fun x=>by
    simp only [vL,iy hi,vJ];constructor
    ·rintro ((h | h) | h)
     ·exact .inl h
     ·exact .inr (.inl h)
     exact .inr (.inr h)
    rintro (h | h | h)
    ·exact .inl (.inl h)
    ·exact .inl (.inr h)
    exact .inr h
   have hg:dQ R z (o::t)=dQ (upR R i (R i++ [o])) (z &&fX (R i) o) t:=by rw [dQ,hbn,if_pos hn]
   have hlen:(aQ (upR R i (R i++ [o]))).length=(aQ R).length+1:=by
    unfold aQ upR
    match i,hi with
    | 0,_=>simp;omega
    | 1,_=>simp;omega
    | 2,_=>simp;omega
    | 3,_=>simp;omega
   rcases pA t _ _ hN1 hF1 (um.1 hs).2 hz1 with ⟨a,b⟩ | ⟨R',z',a,b,c,d,e,f,g⟩
   ·exact .inl ⟨hg.trans a,b.congr hmem⟩
   refine .inr ⟨R',z',hg.trans a,fun q=>b (q.congr (fun x=>(hmem x).symm)),c,fun x=>(d x).trans (hmem x),e.trans (not_congr ⟨fun q=>q.congr hmem,fun q=>q.congr (fun x=>(hmem x).symm)⟩),by rw [f,hlen,ud];omega,fun k=> ?_⟩;obtain ⟨t',ht'⟩:=g k;unfold upR at ht';split at ht'
   ·rename_i ek;subst ek;exact ⟨o::t',by rw [ht'];simp⟩
   exact ⟨t',ht'⟩
  refine .inl ⟨by rw [dQ,hbn,if_neg hn],o,zt,?_,?_⟩
  ·intro h1;have hlt:0<(R i).length:=zj;have e:=vF hlt;obtain ⟨b1,b2,_⟩:=hN i hi 0 _ e;exact hF.off o uu _ (mem_allR.2 ⟨i,hi,vH e⟩) ⟨zj,zj⟩
  rintro ⟨y,hy,e1,e2⟩
  rcases vL.1 hy with hy | hy
  ·obtain ⟨k,hk,hy⟩:=mem_allR.1 hy;obtain ⟨j,a1,a2,a3,_⟩:=hN.get hk hy;obtain rfl:k=i:=zj;have hj:=(vA.1 a1).1
   have hl:j+1<(R k).length:=by
    rcases uB (j+1) (R k).length with q | q
    ·exact q
    exact absurd zj hn
   have e:=vF hl;obtain ⟨b1,b2,_⟩:=hN k hk (j+1) _ e;exact hF.off o uu _ (mem_allR.2 ⟨k,hk,vH e⟩) ⟨zj,by push_cast at b2;omega⟩
  rcases vJ.1 hy with rfl | hy
  ·omega
  have:=(um.1 hs).1 y hy;omega
structure RowsK (R:Rws):Prop where
 num:NumK R
 well:WellK (aQ R)
theorem pG:RowsK (fun _=>[]):=⟨IU,by unfold aQ;exact iM⟩
theorem RowsK.nofall {R:Rws} (h:RowsK R):¬Falls (aQ R):=fun ⟨x,hx,y,hy,e1,e2,e3⟩=>e3 (h.well.rise x hx y hy e1 e2)
structure RowsN (R:Rws):Prop where
 num:NumK R
 up:∀x∈aQ R,∀y∈aQ R,byO x=byO y->aw x+1=aw y->CLt (stO x) (stO y)
theorem RowsK.toN {R:Rws} (h:RowsK R):RowsN R:=⟨h.num,h.well.rise⟩
theorem RowsN.less {R:Rws} (h:RowsN R) {x:OpX} (hx:x∈aQ R):∀(d:Nat) {y:OpX},y∈aQ R->byO x=byO y->aw x+(d+1)=aw y->CLt (stO x) (stO y)
 | 0,y,hy,e1,e2=>h.up x hx y hy e1 zj
 | d+1,y,hy,e1,e2=>by
  rcases h.num.gap y hy with q | ⟨z,hz,z1,z2⟩
  ·have:=oM (h.num.ok x hx);omega
  exact fi (h.less hx d hz zj zj) (h.up z hz y hy z1 z2)
theorem RowsN.stamp {R:Rws} (h:RowsN R) (hx:x∈aQ R) (hy:y∈aQ R) (e:stO x=stO y):x=y:=by
 have e1:byO x=byO y:=(Prod.mk.inj e).2
 rcases Int.lt_trichotomy (aw x) (aw y) with q | q | q
 ·have:=h.less hx (aw y - aw x - 1).toNat hy e1 zj;exact kk9
 ·exact h.num.one x hx y hy e1 q
 have:=h.less hy (aw x - aw y - 1).toNat hx e1.symm zj;exact kk9
theorem RowsN.rise {R:Rws} (h:RowsN R) (hi:i<4):(R i).Pairwise (fun a b=>CLt (stO a) (stO b)):=by
 rw [ub];intro a b ha hb hab;have ea:=vF ha;have eb:=vF hb;obtain ⟨a1,a2,_⟩:=h.num i hi a _ ea;obtain ⟨b1,b2,_⟩:=h.num i hi b _ eb;exact h.less (mem_allR.2 ⟨i,hi,vH ea⟩) (b - a - 1) (mem_allR.2 ⟨i,hi,vH eb⟩) zj zj
def aK (S l:List OpX) (a:(Int×Nat)⊕List OpX):Prop:=match bw S 0 [] l with
 | .inl (i,c)=>a= .inl ((i:Int),c)
 | .inr fresh=>(Gap (S++fresh)/\a= .inl (-1,9))\/(¬Gap (S++fresh)/\Falls (S++fresh)/\a= .inl (-1,3))\/(¬Gap (S++fresh)/\¬Falls (S++fresh)/\(∃x∈S++fresh,¬RefOk (S++fresh) x)/\a= .inl (-1,6))\/(WellK (S++fresh)/\400<S.length+fresh.length/\a= .inl (-1,8))\/(WellK (S++fresh)/\S.length+fresh.length<=400/\a= .inr fresh)
end
section
def Ca (x:OpX):Nat:=(x.2.2.2.2.2.2.2.data.toList.headD 0).toNat
def Km (nd:Int) (x:OpX):Option (Int×Ltr):=if kdO x=105/\aM x=nd then some (aN x,(idO x,Ca x,false)) else none
def cj (A:List OpX) (nd id:Int):Prop:=∃x∈A,kdO x=100/\aM x=nd/\aN x=id
theorem KH (A:List OpX) (nd id:Int):(A.any fun x=>decide (kdO x=100/\aM x=nd/\aN x=id))=true↔cj A nd id:=by simp [cj]
def Lr (A:List OpX) (nd id:Int):Decidable (cj A nd id):=decidable_of_iff _ (KH A nd id)
def iP (A:List OpX) (nd:Int) (l:Ltr):Ltr:= @ite _ (cj A nd l.1) (Lr A nd l.1) (l.1,0,true) l
theorem lU (A:List OpX) (nd:Int) (l:Ltr):(iP A nd l).1=l.1:=by unfold iP;split<;>rfl
theorem lW (A:List OpX) (nd:Int) (L:List Ltr):(L.map (iP A nd)).map (·.1)=L.map (·.1):=by rw [ZC];exact Zi fun l _=>lU A nd l
def LineIs (A:List OpX) (nd:Int) (L:List Ltr):Prop:=∃s,s.Perm (A.filterMap (Km nd))/\pT s/\L=(cF s []).map (iP A nd)
theorem oI {f:Ltr->Ltr} (hf:∀l,(f l).1=l.1) {x:Ltr} (hx:f x=x):∀L,laid x (L.map f)=(laid x L).map f
 | []=>by simp [laid,hx]
 | h::t=>by
  by_cases k:x.1<h.1
  ·rw [ut,ab xO,ab k,ut,oI hf hx t]
  rw [ut,bG xO,bG k,ut,ut,hx]
theorem wl {f:Ltr->Ltr} (hf:∀l,(f l).1=l.1) {x:Ltr} (hx:f x=x) (b:Int):∀L,pS b x (L.map f)=(pS b x L).map f
 | []=>by simp [pS]
 | h::t=>by
  by_cases k:h.1=b
  ·rw [ut,bu xO,bu k,ut,oI hf hx t]
  rw [ut,bl xO,bl k,ut,wl hf hx b t]
theorem KD (hf:∀l,(f l).1=l.1) {x:Ltr} (hx:f x=x) (b:Int) (L:List Ltr):put b x (L.map f)=(put b x L).map f:=by
 unfold put;split
 ·exact oI hf hx L
 exact wl hf hx b L
theorem gO:∀(n:Nat) (s:List (Int×Ltr)),s.length=n->pT s->((cF s []).map (·.1)).Perm (s.map (·.2.1))
 | 0,s,hn,_=>by rw [vZ.1 hn];exact List.Perm.refl _
 | n+1,s,hn,h=>by
  rcases gM s with rfl | ⟨u,m,rfl⟩
  ·simp at hn
  have hu:=nu h;have ih:=gO n u (by simp at hn;exact hn) hu;rw [dF,gL]
  have hb:m.1=0\/m.1∈(cF u []).map (·.1):=by
   rcases h.2.2 u m [] zt with q | ⟨y,hy,q⟩
   ·exact .inl q
   exact .inr (ih.mem_iff.2 (uh.2 ⟨y,hy,q⟩))
  refine (Df hb).trans ?_;rw [un,ut,ZF];exact ((ih.cons m.2.1)).trans (Zm (l₁:=[m.2.1]))
theorem LineIs.ids (h:LineIs A nd L):(L.map (·.1)).Perm ((A.filterMap (Km nd)).map (·.2.1)):=by
 obtain ⟨s,h1,h2,rfl⟩:=h;rw [lW];exact (gO _ s rfl h2).trans (h1.map _)
theorem LineIs.mem (h:LineIs A nd L) :id∈L.map (·.1)↔LetterN A nd id:=by
 rw [h.ids.mem_iff];constructor
 ·intro q;obtain ⟨m,hm,rfl⟩:=uh.1 q;obtain ⟨x,hx,e⟩:=Zl.1 hm;unfold Km at e;split at e
  ·rename_i k
   cases e
   exact ⟨x,hx,k.1,k.2,rfl⟩
  cases e
 rintro ⟨x,hx,k1,k2,k3⟩;exact uh.2 ⟨_,Zl.2 ⟨x,hx,if_pos ⟨k1,k2⟩⟩,k3⟩
theorem LineIs.nodup (h:LineIs A nd L):(L.map (·.1)).Nodup:=by
 obtain ⟨s,h1,h2,rfl⟩:=h;rw [lW];exact (gO _ s rfl h2).nodup_iff.2 h2.1
theorem LineIs.len (h:LineIs A nd L):L.length<=A.length:=by
 have:=h.ids.length_eq;rw [ul,ul] at this;rw [this];exact ZL _ _
theorem LineIs.perm (h:LineIs A nd L) (e:A.Perm B):LineIs B nd L:=by
 obtain ⟨s,h1,h2,rfl⟩:=h
 have hg:∀id,cj A nd id↔cj B nd id:=fun id=>⟨fun ⟨x,hx,q⟩=>⟨x,e.mem_iff.1 hx,q⟩,fun ⟨x,hx,q⟩=>⟨x,e.mem_iff.2 hx,q⟩⟩
 refine ⟨s,h1.trans (e.filterMap _),h2,Zi (fun l _=> ?_)⟩;unfold iP;by_cases q:cj A nd l.1
 ·rw [if_pos q,if_pos ((hg _).1 q)]
 rw [if_neg q,if_neg (fun k=>q ((hg _).2 k))]
theorem LineIs.unique {M:List Ltr} (h:LineIs A nd L) (k:LineIs A nd M):L=M:=by
 obtain ⟨s,h1,h2,rfl⟩:=h;obtain ⟨r,k1,k2,rfl⟩:=k;rw [iT _ s r rfl (h1.trans k1.symm) h2 k2]
theorem LineIs.skip (h:LineIs A nd L) (hx:¬(aM x=nd/\(kdO x=105\/kdO x=100))):LineIs (x::A) nd L:=by
 obtain ⟨s,h1,h2,rfl⟩:=h;refine ⟨s,?_,h2,Zi (fun l _=> ?_)⟩
 ·rw [List.filterMap_cons_none (show Km nd x=none from if_neg (fun q=>hx ⟨q.2,.inl q.1⟩))];exact h1
 have hg:cj (x::A) nd l.1↔cj A nd l.1:=by
  constructor
  ·rintro ⟨y,hy,q⟩
   rcases vJ.1 hy with rfl | hy
   ·exact absurd ⟨q.2.1,.inr q.1⟩ hx
   exact ⟨y,hy,q⟩
  rintro ⟨y,hy,q⟩;exact kq2
 unfold iP;by_cases q:cj A nd l.1
 ·rw [if_pos q,if_pos (hg.2 q)]
 rw [if_neg q,if_neg (fun k=>q (hg.1 k))]
theorem LineIs.ins (h:LineIs A nd L) (hk:kdO x=105) (hn:aM x=nd) (hnew:idO x∉L.map (·.1)) (hpos:idO x≠0) (ho:aN x=0\/aN x∈L.map (·.1)) (hg:¬cj A nd (idO x)):LineIs (x::A) nd (put (aN x) (idO x,Ca x,false) L):=by
 have hids:=h.ids;obtain ⟨s,h1,h2,rfl⟩:=h;rw [lW] at hnew ho hids;have hps:=gO _ s rfl h2
 have hgo:∀id,cj (x::A) nd id↔cj A nd id:=fun id=>by
  constructor
  ·rintro ⟨y,hy,q⟩
   rcases vJ.1 hy with rfl | hy
   ·rw [hk] at q;exact absurd q.1 zr
   exact ⟨y,hy,q⟩
  rintro ⟨y,hy,q⟩;exact kq2
 have hhide:∀l,iP (x::A) nd l=iP A nd l:=fun l=>by
  unfold iP;by_cases q:cj A nd l.1
  ·rw [if_pos q,if_pos ((hgo _).2 q)]
  rw [if_neg q,if_neg (fun k=>q ((hgo _).1 k))]
 have hxl:iP A nd (idO x,Ca x,false)=(idO x,Ca x,false):=if_neg hg;refine ⟨s++ [(aN x,(idO x,Ca x,false))],?_,⟨?_,?_,?_⟩,?_⟩
 ·rw [List.filterMap_cons_some (show Km nd x=some _ from if_pos ⟨hk,hn⟩)];exact (Zm).trans (h1.cons _)
 ·rw [un,uH];refine ⟨h2.1,zt,fun a ha b hb=> ?_⟩;simp at hb;subst hb;intro e;subst e;exact hnew (hps.mem_iff.2 ha)
 ·intro m hm
  rcases vL.1 hm with hm | hm
  ·exact h2.2.1 m hm
  rw [vR.1 hm];exact hpos
 ·intro u m v e
  rcases gM v with rfl | ⟨v',q,rfl⟩
  ·obtain ⟨rfl,e2⟩:=List.append_inj' e rfl
   cases e2
   rcases ho with ho | ho
   ·exact .inl ho
   obtain ⟨y,hy,e⟩:=uh.1 (hps.mem_iff.1 ho);exact .inr ⟨y,hy,e⟩
  have e':s++ [(aN x,(idO x,Ca x,false))]=(u++m::v')++ [q]:=by rw [e];simp
  obtain ⟨rfl,_⟩:=List.append_inj' e' rfl;exact h2.2.2 u m v' rfl
 rw [dF,gL,KD (lU A nd) hxl];exact Zi (fun l _=>(hhide l).symm)
theorem LineIs.del (h:LineIs A nd L) (hk:kdO x=100) (hn:aM x=nd) (hf:bj (aN x) L=some i):LineIs (x::A) nd (L.set i (aN x,0,true)):=by
 have hnd:=h.nodup;obtain ⟨s,h1,h2,rfl⟩:=h;refine ⟨s,?_,h2,?_⟩
 ·rw [List.filterMap_cons_none (show Km nd x=none from if_neg (fun q=>by rw [hk] at q;exact absurd q.1 zr))];exact h1
 obtain ⟨l0,hl0,hid⟩:=cM hf
 have hgo:∀id,cj (x::A) nd id↔id=aN x\/cj A nd id:=fun id=>by
  constructor
  ·rintro ⟨y,hy,q⟩
   rcases vJ.1 hy with rfl | hy
   ·exact .inl q.2.2.symm
   exact .inr ⟨y,hy,q⟩
  rintro (rfl | ⟨y,hy,q⟩)
  ·exact ⟨x,uu,hk,hn,rfl⟩
  exact kq2
 rw [lW] at hnd;refine List.ext_getElem? (fun j=> ?_);rw [List.getElem?_set,ul,uG,uG];rw [uG] at hl0
 cases hj:(cF s [])[j]? with
 | none=>
  have hjl:=List.getElem?_eq_none_iff.1 hj;split
  ·rename_i e;subst e;rw [if_neg zj];rfl
  rfl
 | some l=>
  have hjl:=(vA.1 hj).1;split
  ·rename_i e;subst e;rw [if_pos hjl];rw [hj] at hl0
   cases hl0
   rw [lU] at hid;have hq:iP (x::A) nd l=(l.1,0,true):=if_pos ((hgo _).2 (.inl hid));simp only [Zu,hq,hid]
  rename_i e
  have hne:l.1≠aN x:=fun q=>e (by
   have hil:i<(cF s []).length:=by
    cases hi:(cF s [])[i]? with
    | none=>rw [hi] at hl0;cases hl0
    | some _=>exact (vA.1 hi).1
   have e1:((cF s []).map (·.1))[i]? =some (aN x):=by
    rw [uG]
    cases hi:(cF s [])[i]? with
    | none=>rw [hi] at hl0;cases hl0
    | some l'=>
     rw [hi] at hl0
     cases hl0
     rw [lU] at hid
     simp [hid]
   have e2:((cF s []).map (·.1))[j]? =some (aN x):=by rw [uG,hj];simp [q]
   exact (List.getElem?_inj (by simpa using hil) hnd).1 (e1.trans e2.symm))
  have hq:iP (x::A) nd l=iP A nd l:=by
   unfold iP;by_cases q:cj A nd l.1
   ·rw [if_pos q,if_pos ((hgo _).2 (.inr q))]
   rw [if_neg q,if_neg (fun k=>((hgo _).1 k).elim hne q)]
  simp only [Zu,hq]
theorem LineIs.new (h:∀x∈A,aM x=nd->kdO x≠105):LineIs A nd []:=by
 refine ⟨[],?_,⟨zt,fun m hm=>by simp at hm,fun u m v e=>qE⟩,rfl⟩;rw [show List.filterMap (Km nd) A= [] from List.filterMap_eq_nil_iff.2 (fun x hx=>if_neg (fun q=>h x hx q.2 q.1))]
def GJ (x:OpX):Option Mov:=if kdO x=109 then some ((x.1,x.2.1),(aM x,aN x,x.2.2.2.2.2.2.1)) else none
def bO (A:List OpX):List Mov:=A.filterMap GJ
def dM (A:List OpX) (T:Int):Prop:=(∀x∈A,x.1<=T)/\(T=0\/∃x∈A,x.1=T)/\0<=T
theorem Ft:dM [] 0:=⟨fun x h=>qq,.inl rfl,Int.le_refl _⟩
theorem sZ {T T':Int} (h:dM A T) (k:dM A T'):T=T':=by
 obtain ⟨h1,h2,h3⟩:=h;obtain ⟨k1,k2,k3⟩:=k
 rcases h2 with rfl | ⟨x,hx,rfl⟩<;>rcases k2 with rfl | ⟨y,hy,rfl⟩
 ·rfl
 ·have:=h1 y hy;omega
 ·have:=k1 x hx;omega
 have:=h1 y hy;have:=k1 x hx;omega
theorem CS {T:Int} (h:dM A T) (x:OpX) (hx:1<=x.1):dM (x::A) (if T<x.1 then x.1 else T):=by
 obtain ⟨h1,h2,h3⟩:=h;split
 ·rename_i q;refine ⟨fun y hy=> ?_,.inr ⟨x,uu,rfl⟩,zj⟩
  rcases vJ.1 hy with rfl | hy
  ·exact Int.le_refl _
  have:=h1 y hy;omega
 rename_i q;refine ⟨fun y hy=> ?_,h2.imp (fun e=>e) (fun ⟨y,hy,e⟩=>⟨y,ug _ hy,e⟩),h3⟩
 rcases vJ.1 hy with rfl | hy
 ·omega
 exact h1 y hy
end
section
open scoped Classical
theorem iv (h:ai x=0):1<=x.1/\x.1<=1073741824/\0<=byO x/\byO x<4:=by
 have h0:=ar h;exact ⟨h0.1,h0.2.1,h0.2.2.1,h0.2.2.2.1⟩
theorem dK (h:ai x=0):((kdO x=109/\aM x<=idO x)\/aM x<idO x)/\aN x<idO x/\0<=aM x/\0<=aN x/\(kdO x=109->2<=aM x)/\(kdO x=100->aN x≠0):=by
 have h0:=ar h
 have hid:4<=idO x:=by unfold idO;have:=h0.1;have:=h0.2.2.1;omega
 unfold ai opE at h;rw [if_pos ⟨h0.1,h0.2.1,h0.2.2.1,h0.2.2.2.1,h0.2.2.2.2.1,h0.2.2.2.2.2.1⟩] at h;have e:x.1*4+x.2.1=idO x:=rfl;rw [e] at h;unfold fO at h;split at h
 ·rename_i hk;unfold bK at h;split at h
  ·cases h
  rename_i hc;have hk':kdO x=109:=hk;have e1:x.2.2.2.2.1=aM x:=rfl;have e2:x.2.2.2.2.2.1=aN x:=rfl;rw [e1,e2] at hc;exact ⟨.inl ⟨hk',zj⟩,zj,zj,zj,fun _=>zj,fun k=>by rw [hk'] at k;exact absurd k zr⟩
 rename_i hk;have hk':kdO x≠109:=hk;split at h
 ·rename_i hki;unfold fE at h;split at h
  ·cases h
  rename_i hc;have e1:x.2.2.2.2.1=aM x:=rfl;have e2:x.2.2.2.2.2.1=aN x:=rfl;rw [e1,e2] at hc;have hki':kdO x=105:=hki;exact ⟨.inr zj,zj,zj,zj,fun k=>absurd k hk',fun k=>by rw [hki'] at k;exact absurd k zr⟩
 split at h
 ·unfold gG at h;split at h
  ·cases h
  rename_i hc;have e1:x.2.2.2.2.1=aM x:=rfl;have e2:x.2.2.2.2.2.1=aN x:=rfl;rw [e1,e2] at hc;exact ⟨.inr zj,zj,zj,zj,fun k=>absurd k hk',fun _=>zj⟩
 rename_i hkd;have hkd':kdO x≠100:=hkd;split at h
 ·unfold gI at h;split at h
  ·cases h
  rename_i hc;have e1:x.2.2.2.2.1=aM x:=rfl;have e2:x.2.2.2.2.2.1=aN x:=rfl;rw [e1,e2] at hc;exact ⟨.inr zj,zj,zj,zj,fun k=>absurd k hk',fun k=>absurd k hkd'⟩
 cases h
theorem Dm (hx:ai x=0) (hy:ai y=0) (e:idO x=idO y):stO x=stO y:=by
 have h1:=iv hx;have h2:=iv hy;unfold idO at e;have e1:x.2.1=byO x:=rfl;have e2:y.2.1=byO y:=rfl;rw [e1,e2] at e;have a:x.1=y.1:=zj;have b:byO x=byO y:=zj;unfold stO;rw [a,show x.2.1=y.2.1 from b]
theorem MG (hx:ai x=0) (hy:ai y=0) (h:idO x<idO y):CLt (stO x) (stO y):=by
 have h1:=iv hx;have h2:=iv hy;unfold idO at h;have e1:x.2.1=byO x:=rfl;have e2:y.2.1=byO y:=rfl;rw [e1,e2] at h;unfold CLt stO;dsimp only;rw [e1,e2];omega
theorem Dk (hx:ai x=0):4<=idO x:=by
 have h1:=iv hx;unfold idO;have e1:x.2.1=byO x:=rfl;rw [e1];omega
structure StepOk (A:List OpX) (o:OpX):Prop where
 ok:ai o=0
 new:∀x∈A,stO x≠stO o
 refs:RefOk (o::A) o
 all:∀x∈A,ai x=0/\RefOk A x
 uniq:∀x∈A,∀y∈A,stO x=stO y->x=y
theorem StepOk.perm (h:StepOk A o) (e:A.Perm B):StepOk B o:=
 ⟨h.ok,fun x hx=>h.new x (e.mem_iff.2 hx),h.refs.mono (fun x hx=>by rcases vJ.1 hx with rfl | hx;exact uu;exact ug _ (e.mem_iff.1 hx)),fun x hx=>⟨(h.all x (e.mem_iff.2 hx)).1,(h.all x (e.mem_iff.2 hx)).2.mono (fun y hy=>e.mem_iff.1 hy)⟩,fun x hx y hy=>h.uniq x (e.mem_iff.2 hx) y (e.mem_iff.2 hy)⟩
theorem StepOk.idnew (h:StepOk A o):∀x∈A,idO x≠idO o:=fun x hx e=>h.new x hx (Dm (h.all x hx).1 h.ok e)
theorem StepOk.fresh (h:StepOk A o) (e:aM o=idO o):(¬KnownN A (aM o))/\∀x∈A,aM x≠aM o:=by
 have hk:¬KnownN A (aM o):=fun ⟨x,hx,_,_,q⟩=>h.idnew x hx (q.trans e)
 refine ⟨hk,fun x hx q=> ?_⟩
 rcases (h.all x hx).2.1 with ⟨_,k⟩ | k
 ·exact h.idnew x hx (by rw [k,q,e])
 rw [q] at k;exact hk k
theorem BC {A:List OpX} {o:OpX} {nd:Int} (h:KnownN (o::A) nd) (hn:nd≠idO o):KnownN A nd:=by
 obtain ⟨x,hx,q⟩:=h
 rcases vJ.1 hx with rfl | hx
 ·exact absurd q.2.2.symm hn
 exact ⟨x,hx,q⟩
theorem wU {A:List OpX} {o:OpX} {nd id:Int} (h:LetterN (o::A) nd id) (hn:id≠idO o):LetterN A nd id:=by
 obtain ⟨x,hx,q⟩:=h
 rcases vJ.1 hx with rfl | hx
 ·exact absurd q.2.2.symm hn
 exact ⟨x,hx,q⟩
theorem StepOk.node (h:StepOk A o) (e:aM o≠idO o):KnownN A (aM o):=by
 rcases h.refs.1 with ⟨_,q⟩ | q
 ·exact absurd q.symm e
 exact BC q e
theorem StepOk.letter (h:StepOk A o) (hk:(kdO o=105/\0<aN o)\/kdO o=100):LetterN A (aM o) (aN o):=by
 have:=(dK h.ok).2.1;exact wU (h.refs.2.2 hk) zj
theorem StepOk.line (h:StepOk A o) (hk:kdO o=105\/kdO o=100\/kdO o=115):aM o≠idO o:=by
 rcases (dK h.ok).1 with ⟨q,_⟩ | q
 ·rw [q] at hk;rcases hk with k | k | k<;>exact absurd k zr
 omega
theorem StepOk.ungone (h:StepOk A o) (nd:Int):¬cj A nd (idO o):=fun ⟨x,hx,k,e1,e2⟩=>by
 obtain ⟨y,hy,_,_,q⟩:=(h.all x hx).2.2.2 (.inr k);exact h.idnew y hy (q.trans e2)
theorem ie :KnownN (o::A) nd↔KnownN A nd\/(kdO o=109/\aM o=nd/\idO o=nd):=by
 constructor
 ·rintro ⟨x,hx,q⟩
  rcases vJ.1 hx with rfl | hx
  ·exact .inr q
  exact .inl ⟨x,hx,q⟩
 rintro (⟨x,hx,q⟩ | q)
 ·exact ⟨x,ug _ hx,q⟩
 exact ⟨o,uu,q⟩
theorem mF {K ys:List OpX} (hW:WellK S) (hS:∀x,x∈S↔x∈K\/x∈ys) (hK:∀x∈K,RefOk K x) (hs:ys.Pairwise (fun a b=>CLt (stO a) (stO b))) (hoff:∀x∈ys,x∉K) {k:Nat} (ho:ys[k]? =some o):StepOk (K++ys.take k) o:=by
 have hoy:o∈ys:=vH ho;have hkl:=(vA.1 ho).1
 have hsub:∀x,x∈K++ys.take k->x∈S:=fun x hx=>(hS x).2 ((vL.1 hx).imp (fun q=>q) (fun q=>Zg q))
 have hp:=ub.1 hs
 have low:∀(j:Nat) (x y:OpX),ys[j]? =some x->y∈S->idO y<idO x->y∈K++ys.take j:=fun j x y hj hy hlt=>by
  have hxS:x∈S:=(hS x).2 (.inr (vH hj));have hc:=MG (hW.ok y hy) (hW.ok x hxS) hlt
  rcases (hS y).1 hy with q | q
  ·exact uk _ q
  obtain ⟨i,hi,rfl⟩:=uJ q
  have hij:i<j:=by
   rcases Zw i j with h | h | h
   ·exact h
   ·subst h;rw [vF hi] at hj
    cases hj
    exact absurd hc cZ
   obtain ⟨hjl,rfl⟩:=vA.1 hj;exact absurd (fi hc (hp j i hjl hi h)) cZ
  refine uI _ (vH (i:=i) ?_);rw [Zd,if_pos hij];exact vF hi
 have refs:∀(j:Nat) (x:OpX),ys[j]? =some x->RefOk (x::(K++ys.take j)) x:=fun j x hj=>by
  have hxS:x∈S:=(hS x).2 (.inr (vH hj));have hr:=hW.refs x hxS;have he:=dK (hW.ok x hxS)
  have up:∀y,y∈S->idO y<idO x->y∈x::(K++ys.take j):=fun y hy hl=>ug _ (low j x y hj hy hl)
  refine ⟨?_,fun hk=> ?_,fun hk=> ?_⟩
  ·rcases hr.1 with q | ⟨y,hy,q1,q2,q3⟩
   ·exact .inl q
   rcases he.1 with ⟨q,q'⟩ | q
   ·by_cases e:idO x=aM x
    ·exact .inl ⟨q,e⟩
    exact .inr ⟨y,up y hy zj,q1,q2,q3⟩
   exact .inr ⟨y,up y hy zj,q1,q2,q3⟩
  ·rcases hr.2.1 hk with q | q | ⟨y,hy,q1,q2,q3⟩
   ·exact .inl q
   ·exact .inr (.inl q)
   exact .inr (.inr ⟨y,up y hy zj,q1,q2,q3⟩)
  obtain ⟨y,hy,q1,q2,q3⟩:=hr.2.2 hk;exact ⟨y,up y hy zj,q1,q2,q3⟩
 refine ⟨hW.ok o ((hS o).2 (.inr hoy)),fun x hx e=> ?_,refs k o ho,fun x hx=>⟨hW.ok x (hsub x hx),?_⟩,fun x hx y hy e=>hW.stamp (hsub x hx) (hsub y hy) e⟩
 ·rcases vL.1 hx with q | q
  ·have:=hW.stamp (hsub x hx) ((hS o).2 (.inr hoy)) e;subst this;exact hoff x hoy q
  obtain ⟨i,hi,rfl⟩:=uJ q
  have hi':i<k/\i<ys.length:=by rw [vW] at hi;omega
  have hc:=hp i k hi'.2 hkl hi'.1;rw [ZB] at e;rw [(vA.1 ho).2,e] at hc;exact cZ hc
 rcases vL.1 hx with q | q
 ·exact (hK x q).mono (fun y hy=>uk _ hy)
 obtain ⟨i,hi,e⟩:=uJ q
 have hi':i<k/\i<ys.length:=by rw [vW] at hi;omega
 rw [ZB] at e
 have hxi:ys[i]? =some x:=by rw [<-e];exact vF hi'.2
 refine (refs i x hxi).mono (fun y hy=> ?_)
 rcases vJ.1 hy with rfl | hy
 ·exact hx
 rcases vL.1 hy with hy | hy
 ·exact uk _ hy
 refine uI _ ?_;have:ys.take i=(ys.take k).take i:=xh;rw [this] at hy;exact Zg hy
end
section
open Go.RowKit
theorem wV (n:Int) (h:n<0):n.tdiv 4<=0:=by
 have e:n.tdiv 4= -((-n).tdiv 4):=by rw [Int.neg_tdiv];omega
 have e2:(-n).tdiv 4=(-n) / 4:=Int.tdiv_eq_ediv_of_nonneg zj;omega
theorem GZ (n:Int) (w:World) (u:TypeId) (x:Value) (hg:w.cell? ⟨0,0,none⟩=some (.iface u x)) (hz:0<w.heap.size) (h:n<0) (h2: -9223372036854775808<=n):
  Calls prog 203 #[.int .i64 n] w fun e w'=>e= .returned (.tuple #[.agg #[.int .i64 0,.int .i64 0],.iface u x])/\Below w.heap.size w w':=by
 have hq:=wV n h;go_enter func203,ntmps203;go_wp2_with fail;refine (oX _ _ _ (.iface u x) (by rw [uw _ _ _ qb,uw _ _ _ hz];exact hg) qb zj).mono ?_;exact kc3
theorem Dj (n:Int) (w:World) (u:TypeId) (x:Value) (hg:w.cell? ⟨0,0,none⟩=some (.iface u x)) (hz:0<w.heap.size) (h:0<=n) (h2:n<4\/4294967300<=n) (h3:n<=9223372036854775807):
  Calls prog 203 #[.int .i64 n] w fun e w'=>e= .returned (.tuple #[.agg #[.int .i64 0,.int .i64 0],.iface u x])/\Below w.heap.size w w':=by
 have hq:¬(1<=n / 4/\n / 4<=1073741824/\0<=n % 4/\n % 4<4):=zj;have H:Hid (¬(1<=n / 4/\n / 4<=1073741824/\0<=n % 4/\n % 4<4)):=hq;clear hq h2;go_enter func203,ntmps203;go_wp2_with fail;refine (oX _ _ _ (.iface u x) (by rw [uw _ _ _ qb,uw _ _ _ hz];exact hg) qb H.o).mono ?_;exact kc3
theorem NN (n:Int) (w:World) (u:TypeId) (x:Value) (hg:w.cell? ⟨0,0,none⟩=some (.iface u x)) (hz:0<w.heap.size) (h:n<4\/4294967300<=n) (h2: -9223372036854775808<=n) (h3:n<=9223372036854775807):
  Calls prog 203 #[.int .i64 n] w fun e w'=>e= .returned (.tuple #[.agg #[.int .i64 0,.int .i64 0],.iface u x])/\Below w.heap.size w w':=by
 by_cases hn:n<0
 ·exact GZ n w u x hg hz hn h2
 exact Dj n w u x hg hz zj h h3
end
section
open Go.RowKit
