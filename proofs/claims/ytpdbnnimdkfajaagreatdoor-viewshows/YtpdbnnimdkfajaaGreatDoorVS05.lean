import Derived.Test.YtpdbnnimdkfajaaGreatDoorVS01
import Derived.Test.YtpdbnnimdkfajaaGreatDoorVS02
import Derived.Test.YtpdbnnimdkfajaaGreatDoorVS03
set_option linter.unusedSimpArgs false
set_option linter.unusedVariables false
namespace Go.Proofs.YtpdbnnimdkfajaaGreatDoor
open Go.Proofs.Tryz
variable {id nd:Int} {L:List Ltr} {A J S T t:List OpX} {f:Ltr→Ltr} {a i n:Nat} {K:Nat→List OpX} {o x y:OpX}
section
def errO (x:OpX):Nat:=opE x.1 x.2.1 x.2.2.1 x.2.2.2.1 x.2.2.2.2.1 x.2.2.2.2.2.1 x.2.2.2.2.2.2.1.data.toList x.2.2.2.2.2.2.2.data.toList
def keyO (x:OpX):CKey:=(x.2.2.2.2.1,x.2.2.2.2.2.2.1)
def cellO (x:OpX):CMark:=(x.2.2.2.2.2.2.2,(x.1,x.2.1))
def markO (x:OpX):Option (CKey×CMark):=if errO x=0/\x.2.2.2.1=115 then some (keyO x,cellO x) else none
def marksO (xs:List OpX):List (CKey×CMark):=xs.filterMap markO
theorem marksO_app (xs ys:List OpX):marksO (xs++ys)=marksO xs++marksO ys:=List.filterMap_append
def madeO (xs:List OpX):CSta:=foldC (marksO xs) noC
def stepO (f:CSta) (x:OpX):CSta:=if errO x=0/\x.2.2.2.1=115 then setC f (keyO x,cellO x) else f
theorem madeO_snoc (xs:List OpX) (x:OpX):madeO (xs++ [x])=stepO (madeO xs) x:=by
 unfold madeO stepO
 rw [marksO_app]
 by_cases h:errO x=0/\x.2.2.2.1=115
 ·have e:marksO [x]= [(keyO x,cellO x)]:=by simp [marksO,markO,h]
  rw [e,foldC_snoc,if_pos h]
 have e:marksO [x]= []:=by simp [marksO,markO,h]
 rw [e,vf,if_neg h]
def OneO (xs:List OpX):Prop:=∀x∈xs,∀y∈xs,x.1=y.1->x.2.1=y.2.1->x=y
theorem markO_some {m:CKey×CMark} (h:markO x=some m):m=(keyO x,cellO x):=by
 unfold markO at h
 split at h
 ·exact (Option.some.inj h).symm
 cases h
theorem OneO.marks {xs:List OpX} (h:OneO xs):OneC (marksO xs):=by
 intro k c d hc hd e
 obtain ⟨x,hx,ex⟩:=vO.1 hc
 obtain ⟨y,hy,ey⟩:=vO.1 hd
 have e1:=markO_some ex
 have e2:=markO_some ey
 have c1:c=cellO x:=(Prod.mk.inj e1).2
 have d1:d=cellO y:=(Prod.mk.inj e2).2
 subst c1
 subst d1
 have e3:(x.1,x.2.1)=(y.1,y.2.1):=e
 rw [h x hx y hy (Prod.mk.inj e3).1 (Prod.mk.inj e3).2]
end
section
abbrev byO (x:OpX):Int:=x.2.1
abbrev numO (x:OpX):Int:=x.2.2.1
abbrev kdO (x:OpX):Nat:=x.2.2.2.1
abbrev nodeO (x:OpX):Int:=x.2.2.2.2.1
abbrev otherO (x:OpX):Int:=x.2.2.2.2.2.1
def idO (x:OpX):Int:=x.1*4+x.2.1
def stO (x:OpX):Int×Int:=(x.1,x.2.1)
def KnownN (S:List OpX) (nd:Int):Prop:=∃x∈S,kdO x=109/\nodeO x=nd/\idO x=nd
def LetterN (S:List OpX) (nd id:Int):Prop:=∃x∈S,kdO x=105/\nodeO x=nd/\idO x=id
def RefOk (S:List OpX) (x:OpX):Prop:=((kdO x=109/\idO x=nodeO x)\/KnownN S (nodeO x))/\(kdO x=109->otherO x=0\/otherO x=1\/KnownN S (otherO x))/\((kdO x=105/\0<otherO x)\/kdO x=100->LetterN S (nodeO x) (otherO x))
theorem KnownN.mono (h:∀x,x∈S->x∈T) (k:KnownN S nd):KnownN T nd:=by
 obtain ⟨x,hx,k⟩:=k
 exact ⟨x,h x hx,k⟩
theorem LetterN.mono (h:∀x,x∈S->x∈T) (k:LetterN S nd id):LetterN T nd id:=by
 obtain ⟨x,hx,k⟩:=k
 exact ⟨x,h x hx,k⟩
theorem RefOk.mono {S T:List OpX} (h:∀x,x∈S->x∈T) {x:OpX} (k:RefOk S x):RefOk T x:=
 ⟨k.1.imp (fun e=>e) (KnownN.mono h),fun e=>(k.2.1 e).imp (fun e=>e) (fun e=>e.imp (fun e=>e) (KnownN.mono h)),fun e=>(k.2.2 e).mono h⟩
structure WellK (S:List OpX):Prop where
 ok:∀x∈S,errO x=0
 one:∀x∈S,∀y∈S,byO x=byO y->numO x=numO y->x=y
 gap:∀x∈S,numO x=1\/∃y∈S,byO y=byO x/\numO y+1=numO x
 rise:∀x∈S,∀y∈S,byO x=byO y->numO x+1=numO y->CLt (stO x) (stO y)
 refs:∀x∈S,RefOk S x
theorem wellK_nil:WellK []:=⟨fun x h=>yw,fun x h=>yw,fun x h=>yw,fun x h=>yw,fun x h=>yw⟩
theorem WellK.congr (h:WellK S) (e:∀x,x∈S↔x∈T):WellK T:=
 ⟨fun x hx=>h.ok x ((e x).2 hx),fun x hx y hy=>h.one x ((e x).2 hx) y ((e y).2 hy),fun x hx=>(h.gap x ((e x).2 hx)).imp (fun q=>q) (fun ⟨y,hy,q⟩=>⟨y,(e y).1 hy,q⟩),fun x hx y hy=>h.rise x ((e x).2 hx) y ((e y).2 hy),fun x hx=>(h.refs x ((e x).2 hx)).mono (fun y hy=>(e y).1 hy)⟩
def Compat (S T:List OpX):Prop:=∀x∈S,∀y∈T,byO x=byO y->numO x=numO y->x=y
theorem Compat.symm {S T:List OpX} (h:Compat S T):Compat T S:=fun x hx y hy e1 e2=>(h y hy x hx e1.symm e2.symm).symm
theorem num_pos (h:errO x=0):1<=numO x:=(opE_zero h).2.2.2.2.1
theorem WellK.union (hS:WellK S) (hT:WellK T) (hc:Compat S T):WellK (S++T):=by
 have across:∀ {A B:List OpX},WellK A->WellK B->Compat A B->∀x∈A,∀y∈B,byO x=byO y->numO x+1=numO y->CLt (stO x) (stO y):=fun {A B} hA hB hAB x hx y hy e1 e2=>by
  rcases hB.gap y hy with q | ⟨z,hz,z1,z2⟩
  ·have:=num_pos (hA.ok x hx)
   omega
  obtain rfl:=hAB x hx z hz zi zi
  exact hB.rise x hz y hy e1 e2
 refine ⟨fun x hx=> ?_,fun x hx y hy e1 e2=> ?_,fun x hx=> ?_,fun x hx y hy e1 e2=> ?_,fun x hx=> ?_⟩
 ·rcases ju.1 hx with h | h
  ·exact hS.ok x h
  exact hT.ok x h
 ·rcases ju.1 hx with h | h<;>rcases ju.1 hy with k | k
  ·exact hS.one x h y k e1 e2
  ·exact hc x h y k e1 e2
  ·exact hc.symm x h y k e1 e2
  exact hT.one x h y k e1 e2
 ·rcases ju.1 hx with h | h
  ·exact (hS.gap x h).imp (fun q=>q) (fun ⟨y,hy,q⟩=>⟨y,jP _ hy,q⟩)
  exact (hT.gap x h).imp (fun q=>q) (fun ⟨y,hy,q⟩=>⟨y,vi _ hy,q⟩)
 ·rcases ju.1 hx with h | h<;>rcases ju.1 hy with k | k
  ·exact hS.rise x h y k e1 e2
  ·exact across hS hT hc x h y k e1 e2
  ·exact across hT hS hc.symm x h y k e1 e2
  exact hT.rise x h y k e1 e2
 rcases ju.1 hx with h | h
 ·exact (hS.refs x h).mono (fun y hy=>jP _ hy)
 exact (hT.refs x h).mono (fun y hy=>vi _ hy)
theorem WellK.down {S:List OpX} (h:WellK S) {x:OpX} (hx:x∈S):∀(d:Nat) (m:Int),1<=m->m+d=numO x->∃y∈S,byO y=byO x/\numO y=m
 | 0,m,_,e=>⟨x,hx,rfl,zi⟩
 | d+1,m,h1,e=>by
  obtain ⟨y,hy,b1,b2⟩:=h.down hx d (m+1) zi zi
  rcases h.gap y hy with q | ⟨z,hz,z1,z2⟩
  ·omega
  exact ⟨z,hz,zi,zi⟩
theorem WellK.less {S:List OpX} (h:WellK S) {x:OpX} (hx:x∈S):∀(d:Nat) {y:OpX},y∈S->byO x=byO y->numO x+(d+1)=numO y->CLt (stO x) (stO y)
 | 0,y,hy,e1,e2=>h.rise x hx y hy e1 zi
 | d+1,y,hy,e1,e2=>by
  rcases h.gap y hy with q | ⟨z,hz,z1,z2⟩
  ·have:=num_pos (h.ok x hx)
   omega
  exact clt_trans (h.less hx d hz zi zi) (h.rise z hz y hy z1 z2)
theorem WellK.stamp (h:WellK S) (hx:x∈S) (hy:y∈S) (e:stO x=stO y):x=y:=by
 have e1:byO x=byO y:=(Prod.mk.inj e).2
 rcases Int.lt_trichotomy (numO x) (numO y) with q | q | q
 ·have:=h.less hx (numO y - numO x - 1).toNat hy e1 zi
  rw [e] at this
  exact absurd this clt_irrefl
 ·exact h.one x hx y hy e1 q
 have:=h.less hy (numO x - numO y - 1).toNat hx e1.symm zi
 rw [e] at this
 exact absurd this clt_irrefl
theorem WellK.add {S:List OpX} (h:WellK S) {x:OpX} (hok:errO x=0) (hn:numO x=1\/∃y∈S,byO y=byO x/\numO y+1=numO x) (hnew:∀y∈S,byO y=byO x->numO y<numO x) (hst:∀y∈S,CLt (stO y) (stO x)) (hr:RefOk (x::S) x):WellK (x::S):=by
 have sub:∀y,y∈S->y∈x::S:=fun y hy=>jv _ hy
 refine ⟨fun y hy=> ?_,fun y hy z hz e1 e2=> ?_,fun y hy=> ?_,fun y hy z hz e1 e2=> ?_,fun y hy=> ?_⟩
 ·rcases jn.1 hy with rfl | hy
  ·exact hok
  exact h.ok y hy
 ·rcases jn.1 hy with e | ky<;>rcases jn.1 hz with e' | kz
  ·rw [e,e']
  ·rw [e] at e1 e2
   have:=hnew z kz e1.symm
   omega
  ·rw [e'] at e1 e2
   have:=hnew y ky e1
   omega
  exact h.one y ky z kz e1 e2
 ·rcases jn.1 hy with e | hy
  ·subst e
   exact hn.imp (fun q=>q) (fun ⟨z,hz,q⟩=>⟨z,sub z hz,q⟩)
  exact (h.gap y hy).imp (fun q=>q) (fun ⟨z,hz,q⟩=>⟨z,sub z hz,q⟩)
 ·rcases jn.1 hy with e | ky<;>rcases jn.1 hz with e' | kz
  ·rw [e,e'] at e2
   omega
  ·rw [e] at e1 e2
   have:=hnew z kz e1.symm
   omega
  ·rw [e']
   exact hst y ky
  exact h.rise y ky z kz e1 e2
 rcases jn.1 hy with e | hy
 ·rw [e];exact hr
 exact (h.refs y hy).mono sub
structure FolkK (n:Nat) (K:Nat->List OpX):Prop where
 well:∀r,r<n->WellK (K r)
 compat:∀r,r<n->∀s,s<n->Compat (K r) (K s)
 own:∀r,r<n->∀s,s<n->∀x∈K r,byO x=(s:Int)->x∈K s
theorem folk_start (n:Nat):FolkK n (fun _=>[]):=⟨fun _ _=>wellK_nil,fun _ _ _ _ x hx=>yy,fun _ _ _ _ x hx=>yy⟩
theorem FolkK.join (h:FolkK n K) {b:Nat} (ha:a<n) (hb:b<n) (hJ:∀x,x∈J↔x∈K a\/x∈K b):FolkK n (fun r=>if r=a then J else K r):=by
 have hw:WellK J:=((h.well a ha).union (h.well b hb) (h.compat a ha b hb)).congr (fun x=>by rw [hJ,ju])
 have hin:∀r,r<n->∀x∈(if r=a then J else K r),∃q,q<n/\x∈K q:=fun r hr x hx=>by
  split at hx
  ·rcases (hJ x).1 hx with e | e
   ·exact ⟨a,ha,e⟩
   exact ⟨b,hb,e⟩
  exact ⟨r,hr,hx⟩
 refine ⟨fun r hr=> ?_,fun r hr s hs x hx y hy e1 e2=> ?_,fun r hr s hs x hx e=> ?_⟩
 ·split
  ·exact hw
  exact h.well r hr
 ·obtain ⟨q,hq,hx⟩:=hin r hr x hx
  obtain ⟨q',hq',hy⟩:=hin s hs y hy
  exact h.compat q hq q' hq' x hx y hy e1 e2
 obtain ⟨q,hq,hx⟩:=hin r hr x hx
 have:=h.own q hq s hs x hx e
 split
 ·rename_i es
  subst es
  exact (hJ x).2 (.inl this)
 exact this
theorem FolkK.make {n:Nat} {K:Nat->List OpX} (h:FolkK n K) {a:Nat} (ha:a<n) {x:OpX} (hx:byO x=(a:Int)) {J:List OpX} (hJ:∀y,y∈J↔y=x\/y∈K a) (hw:WellK (x::K a)) (hnew:∀y∈K a,byO y=byO x->numO y<numO x):FolkK n (fun r=>if r=a then J else K r):=by
 have hwJ:WellK J:=hw.congr (fun y=>by rw [hJ,jn])
 have fresh:∀r,r<n->∀y∈K r,byO y=byO x->numO y<numO x:=fun r hr y hy e=>hnew y (h.own r hr a ha y hy zi) e
 have hin:∀r,r<n->∀y∈(if r=a then J else K r),y=x\/∃q,q<n/\y∈K q:=fun r hr y hy=>by
  split at hy
  ·rcases (hJ y).1 hy with e | e
   ·exact .inl e
   exact .inr ⟨a,ha,e⟩
  exact .inr ⟨r,hr,hy⟩
 refine ⟨fun r hr=> ?_,fun r hr s hs y hy z hz e1 e2=> ?_,fun r hr s hs y hy e=> ?_⟩
 ·split
  ·exact hwJ
  exact h.well r hr
 ·rcases hin r hr y hy with e | ⟨q,hq,hy⟩<;>rcases hin s hs z hz with e' | ⟨q',hq',hz⟩
  ·rw [e,e']
  ·subst e
   have:=fresh q' hq' z hz e1.symm
   omega
  ·subst e'
   have:=fresh q hq y hy e1
   omega
  exact h.compat q hq q' hq' y hy z hz e1 e2
 rcases hin r hr y hy with e' | ⟨q,hq,hy⟩
 ·subst e'
  have:s=a:=zi
  subst this
  rw [if_pos rfl]
  exact (hJ y).2 (.inl rfl)
 have:=h.own q hq s hs y hy e
 split
 ·rename_i es
  subst es
  exact (hJ y).2 (.inr this)
 exact this
end
section
def lookK (S:List OpX) (b n:Int):Option OpX:=S.find? (fun x=>decide (byO x=b/\numO x=n))
theorem lookK_some {b n:Int} (h:lookK S b n=some x):x∈S/\byO x=b/\numO x=n:=by
 unfold lookK at h
 exact ⟨List.mem_of_find?_eq_some h,by simpa using List.find?_some h⟩
theorem lookK_none {b n:Int} :lookK S b n=none↔∀x∈S,¬(byO x=b/\numO x=n):=by
 unfold lookK
 rw [List.find?_eq_none]
 simp
theorem lookK_app (S T:List OpX) (b n:Int):lookK (S++T) b n=(lookK S b n).or (lookK T b n):=by
 unfold lookK
 rw [List.find?_append]
theorem lookK_is (h1:∀x∈S,∀y∈S,byO x=byO y->numO x=numO y->x=y) (hx:x∈S):lookK S (byO x) (numO x)=some x:=by
 cases h:lookK S (byO x) (numO x) with
 | none=>exact absurd ⟨rfl,rfl⟩ (lookK_none.1 h x hx)
 | some y=>
  obtain ⟨a,b,c⟩:=lookK_some h
  rw [h1 x hx y a b.symm c.symm]
def sameX (x y:OpX):Bool:=decide (x.1=y.1/\x.2.1=y.2.1/\x.2.2.1=y.2.2.1/\x.2.2.2.1=y.2.2.2.1/\x.2.2.2.2.1=y.2.2.2.2.1/\x.2.2.2.2.2.1=y.2.2.2.2.2.1/\x.2.2.2.2.2.2.1.data.toList=y.2.2.2.2.2.2.1.data.toList/\x.2.2.2.2.2.2.2.data.toList=y.2.2.2.2.2.2.2.data.toList)
theorem bytes_eq {a b:ByteArray} (h:a.data.toList=b.data.toList):a=b:=by
 cases a;cases b
 simpa [Array.toList_inj] using h
theorem sameX_iff :sameX x y=true↔x=y:=by
 unfold sameX
 rw [decide_eq_true_iff]
 constructor
 ·intro h
  obtain ⟨a,b,c,d,e,f,g,i⟩:=x
  obtain ⟨a',b',c',d',e',f',g',i'⟩:=y
  obtain ⟨h1,h2,h3,h4,h5,h6,h7,h8⟩:=h
  simp only at h1 h2 h3 h4 h5 h6 h7 h8
  rw [h1,h2,h3,h4,h5,h6,bytes_eq h7,bytes_eq h8]
 intro h
 rw [h]
 exact ⟨rfl,rfl,rfl,rfl,rfl,rfl,rfl,rfl⟩
def siftS (S:List OpX):Nat->List OpX->List OpX->(Nat×Nat)⊕List OpX
 | _,fresh,[]=>.inr fresh
 | i,fresh,o::t=>if errO o=0 then (match lookK (S++fresh) (byO o) (numO o) with
   | none=>siftS S (i+1) (fresh++ [o]) t
   | some x=>if sameX x o=true then siftS S (i+1) fresh t else .inl (i,7)) else .inl (i,errO o)
theorem sift_bad {fresh:List OpX} (h:errO o≠0):siftS S i fresh (o::t)= .inl (i,errO o):=by
 rw [siftS,if_neg h]
theorem sift_new {fresh:List OpX} (h:errO o=0) (hl:lookK (S++fresh) (byO o) (numO o)=none):siftS S i fresh (o::t)=siftS S (i+1) (fresh++ [o]) t:=by
 rw [siftS,if_pos h,hl]
theorem sift_same {fresh:List OpX} (h:errO o=0) (hl:lookK (S++fresh) (byO o) (numO o)=some o):siftS S i fresh (o::t)=siftS S (i+1) fresh t:=by
 rw [siftS,if_pos h,hl]
 exact if_pos (sameX_iff.2 rfl)
theorem sift_other {fresh:List OpX} (h:errO o=0) (hl:lookK (S++fresh) (byO o) (numO o)=some x) (hx:x≠o):siftS S i fresh (o::t)= .inl (i,7):=by
 rw [siftS,if_pos h,hl]
 exact if_neg (fun q=>hx (sameX_iff.1 q))
structure FreshK (S fresh:List OpX):Prop where
 ok:∀x∈fresh,errO x=0
 off:∀x∈fresh,∀y∈S,¬(byO y=byO x/\numO y=numO x)
 one:fresh.Pairwise (fun x y=>¬(byO x=byO y/\numO x=numO y))
theorem freshK_nil (S:List OpX):FreshK S []:=⟨fun x h=>yw,fun x h=>yw,List.Pairwise.nil⟩
theorem FreshK.snoc {fresh:List OpX} (h:FreshK S fresh) (ho:errO o=0) (hl:lookK (S++fresh) (byO o) (numO o)=none):FreshK S (fresh++ [o]):=by
 have hn:=lookK_none.1 hl
 refine ⟨fun x hx=> ?_,fun x hx=> ?_,?_⟩
 ·rcases ju.1 hx with h1 | h1
  ·exact h.ok x h1
  rw [jD.1 h1];exact ho
 ·rcases ju.1 hx with h1 | h1
  ·exact h.off x h1
  rw [jD.1 h1]
  exact fun y hy=>hn y (jP _ hy)
 refine jW.2 ⟨h.one,List.pairwise_singleton _ _,fun x hx y hy=> ?_⟩
 rw [jD.1 hy]
 exact hn x (vi _ hx)
theorem sift_fresh {S:List OpX} :∀ {l:List OpX} {i:Nat} {fresh out:List OpX},FreshK S fresh->siftS S i fresh l= .inr out->FreshK S out/\(∀x,x∈out->x∈fresh\/x∈l)/\(∀x,x∈fresh->x∈out)/\(∀x∈l,x∈S\/x∈out)/\out.length<=fresh.length+l.length
 | [],_,_,_,hF,h=>by
  rw [siftS] at h
  cases h
  exact ⟨hF,fun x hx=>.inl hx,fun x hx=>hx,fun x hx=>yy,zm⟩
 | o::t,i,fresh,out,hF,h=>by
  by_cases ho:errO o=0
  ·cases hl:lookK (S++fresh) (byO o) (numO o) with
   | none=>
    rw [sift_new ho hl] at h
    obtain ⟨k1,k2,k3,k4,k5⟩:=sift_fresh (hF.snoc ho hl) h
    refine ⟨k1,fun x hx=> ?_,fun x hx=>k3 x (jP _ hx),fun x hx=> ?_,by simp at k5 |-;omega⟩
    ·rcases k2 x hx with q | q
     ·rcases ju.1 q with q | q
      ·exact .inl q
      exact .inr (by rw [jD.1 q];exact jM)
     exact .inr (jv _ q)
    rcases jn.1 hx with rfl | hx
    ·exact .inr (k3 x zm)
    exact k4 x hx
   | some x=>
    by_cases hx:x=o
    ·subst hx
     rw [sift_same ho hl] at h
     obtain ⟨k1,k2,k3,k4,k5⟩:=sift_fresh hF h
     refine ⟨k1,fun y hy=>(k2 y hy).imp (fun q=>q) (fun q=>jv _ q),k3,fun y hy=> ?_,by simp at k5 |-;omega⟩
     rcases jn.1 hy with rfl | hy
     ·rcases ju.1 (lookK_some hl).1 with q | q
      ·exact .inl q
      exact .inr (k3 _ q)
     exact k4 y hy
    rw [sift_other ho hl hx] at h
    cases h
  rw [sift_bad ho] at h
  cases h
theorem sift_fine {S T:List OpX} (h1:∀x∈S,∀y∈S,byO x=byO y->numO x=numO y->x=y) (hT:∀x∈T,∀y∈T,byO x=byO y->numO x=numO y->x=y) (hc:Compat S T) (hok:∀x∈T,errO x=0):
  ∀ {l:List OpX} (i:Nat) {fresh:List OpX},(∀x∈l,x∈T)->(∀x∈fresh,x∈T)->∃out,siftS S i fresh l= .inr out/\∀x∈out,x∈T
 | [],i,fresh,_,hf=>⟨fresh,rfl,hf⟩
 | o::t,i,fresh,hl,hf=>by
  have ho:=hok o (hl o jM)
  cases hk:lookK (S++fresh) (byO o) (numO o) with
  | none=>
   rw [sift_new ho hk]
   refine sift_fine h1 hT hc hok (i+1) (fun x hx=>hl x (jv _ hx)) (fun x hx=> ?_)
   rcases ju.1 hx with q | q
   ·exact hf x q
   rw [jD.1 q];exact hl o jM
  | some x=>
   obtain ⟨a,b,c⟩:=lookK_some hk
   have hx:x=o:=by
    rcases ju.1 a with q | q
    ·exact hc x q o (hl o jM) b c
    exact hT x (hf x q) o (hl o jM) b c
   subst hx
   rw [sift_same ho hk]
   exact sift_fine h1 hT hc hok (i+1) (fun x hx=>hl x (jv _ hx)) hf
abbrev Rws:=Nat->List OpX
def allR (R:Rws):List OpX:=R 0++(R 1++(R 2++R 3))
theorem mem_allR {R:Rws} :x∈allR R↔∃i,i<4/\x∈R i:=by
 unfold allR
 simp only [ju]
 constructor
 ·rintro (h | h | h | h)
  ·exact ⟨0,zi,h⟩
  ·exact ⟨1,zi,h⟩
  ·exact ⟨2,zi,h⟩
  exact ⟨3,zi,h⟩
 rintro ⟨i,hi,h⟩
 match i,hi with
 | 0,_=>exact .inl h
 | 1,_=>exact .inr (.inl h)
 | 2,_=>exact .inr (.inr (.inl h))
 | 3,_=>exact .inr (.inr (.inr h))
def NumK (R:Rws):Prop:=∀i:Nat,i<4->∀(j:Nat) (x:OpX),(R i)[j]? =some x->byO x=(i:Int)/\numO x=(j:Int)+1/\errO x=0
def upR (R:Rws) (i:Nat) (l:List OpX):Rws:=fun j=>if j=i then l else R j
theorem numK_nil:NumK (fun _=>[]):=fun i _ j x h=>yw
theorem by_nat (h:errO x=0):∃i:Nat,i<4/\byO x=(i:Int)/\(byO x).toNat=i:=by
 have h0:=opE_zero h
 have h1:0<=byO x:=h0.2.2.1
 have h2:byO x<4:=h0.2.2.2.1
 exact ⟨(byO x).toNat,zi,zi,rfl⟩
theorem NumK.get {R:Rws} (h:NumK R) (hi:i<4) (hx:x∈R i):∃j:Nat,(R i)[j]? =some x/\byO x=(i:Int)/\numO x=(j:Int)+1/\errO x=0:=by
 obtain ⟨j,hj,rfl⟩:=jU hx
 have e:=ji hj
 exact ⟨j,e,h i hi j _ e⟩
theorem NumK.one {R:Rws} (h:NumK R):∀x∈allR R,∀y∈allR R,byO x=byO y->numO x=numO y->x=y:=by
 intro x hx y hy e1 e2
 obtain ⟨i,hi,hx⟩:=mem_allR.1 hx
 obtain ⟨k,hk,hy⟩:=mem_allR.1 hy
 obtain ⟨j,a1,a2,a3,_⟩:=h.get hi hx
 obtain ⟨j',b1,b2,b3,_⟩:=h.get hk hy
 obtain rfl:i=k:=zi
 obtain rfl:j=j':=zi
 rw [a1] at b1
 exact Option.some.inj b1
theorem NumK.ok {R:Rws} (h:NumK R):∀x∈allR R,errO x=0:=by
 intro x hx
 obtain ⟨i,hi,hx⟩:=mem_allR.1 hx
 obtain ⟨_,_,_,_,h⟩:=h.get hi hx
 exact h
theorem NumK.gap {R:Rws} (h:NumK R):∀x∈allR R,numO x=1\/∃y∈allR R,byO y=byO x/\numO y+1=numO x:=by
 intro x hx
 obtain ⟨i,hi,hx⟩:=mem_allR.1 hx
 obtain ⟨j,a1,a2,a3,_⟩:=h.get hi hx
 cases j with
 | zero=>exact .inl zi
 | succ j=>
  have hl:=(jh.1 a1).1
  have e:=ji (show j<(R i).length by omega)
  obtain ⟨b1,b2,_⟩:=h i hi j _ e
  exact .inr ⟨_,mem_allR.2 ⟨i,hi,jm e⟩,zi,zi⟩
theorem NumK.look {R:Rws} (h:NumK R) (hi:i<4):lookK (allR R) (i:Int) ((n:Int)+1)=(R i)[n]? :=by
 cases e:(R i)[n]? with
 | none=>
  refine lookK_none.2 (fun x hx ⟨e1,e2⟩=> ?_)
  obtain ⟨k,hk,hx⟩:=mem_allR.1 hx
  obtain ⟨j,a1,a2,a3,_⟩:=h.get hk hx
  obtain rfl:k=i:=zi
  obtain rfl:j=n:=zi
  rw [a1] at e
  cases e
 | some x=>
  obtain ⟨b1,b2,_⟩:=h i hi n x e
  rw [<-b1,<-b2]
  exact lookK_is h.one (mem_allR.2 ⟨i,hi,jm e⟩)
theorem mem_up {R:Rws} (hi:i<4) :x∈allR (upR R i (R i++ [o]))↔x∈allR R\/x=o:=by
 constructor
 ·intro h
  obtain ⟨k,hk,h⟩:=mem_allR.1 h
  unfold upR at h
  split at h
  ·rename_i e
   subst e
   rcases ju.1 h with h | h
   ·exact .inl (mem_allR.2 ⟨_,hk,h⟩)
   exact .inr (jD.1 h)
  exact .inl (mem_allR.2 ⟨k,hk,h⟩)
 rintro (h | rfl)
 ·obtain ⟨k,hk,h⟩:=mem_allR.1 h
  refine mem_allR.2 ⟨k,hk,?_⟩
  unfold upR
  split
  ·rename_i e
   subst e
   exact jP _ h
  exact h
 refine mem_allR.2 ⟨i,hi,?_⟩
 unfold upR
 rw [if_pos rfl]
 simp
theorem NumK.up {R:Rws} (h:NumK R) {i:Nat} {o:OpX} (ho:errO o=0) (hb:byO o=(i:Int)) (hn:numO o=((R i).length:Int)+1):NumK (upR R i (R i++ [o])):=by
 intro k hk j x hx
 unfold upR at hx
 split at hx
 ·rename_i e
  subst e
  rw [List.getElem?_append] at hx
  split at hx
  ·exact h _ hk j x hx
  rename_i hj
  obtain ⟨d,hd⟩:=za (j - (R k).length)
  rw [<-hd] at hx
  cases d with
  | zero=>
   cases hx
   exact ⟨hb,zi,ho⟩
  | succ d=>simp at hx
 exact h k hk j x hx
def Gap (S:List OpX):Prop:=∃x∈S,numO x≠1/\¬∃y∈S,byO y=byO x/\numO y+1=numO x
def Falls (S:List OpX):Prop:=∃x∈S,∃y∈S,byO x=byO y/\numO x+1=numO y/\¬CLt (stO x) (stO y)
theorem Gap.congr (e:∀x,x∈S↔x∈T) (h:Gap S):Gap T:=by
 obtain ⟨x,hx,h1,h2⟩:=h
 exact ⟨x,(e x).1 hx,h1,fun ⟨y,hy,q⟩=>h2 ⟨y,(e y).2 hy,q⟩⟩
theorem Falls.congr (e:∀x,x∈S↔x∈T) (h:Falls S):Falls T:=by
 obtain ⟨x,hx,y,hy,q⟩:=h
 exact ⟨x,(e x).1 hx,y,(e y).1 hy,q⟩
theorem NumK.nogap {R:Rws} (h:NumK R):¬Gap (allR R):=fun ⟨x,hx,h1,h2⟩=>by
 rcases h.gap x hx with q | q
 ·exact h1 q
 exact h2 q
def riseB (l:List OpX) (o:OpX):Bool:=match l.getLast? with
 | none=>true
 | some y=>decide (CLt (stO y) (stO o))
def withGo:Rws->Bool->List OpX->Option (Rws×Bool)
 | R,z,[]=>some (R,z)
 | R,z,o::t=>if numO o=((R (byO o).toNat).length:Int)+1 then withGo (upR R (byO o).toNat (R (byO o).toNat++ [o])) (z &&riseB (R (byO o).toNat) o) t else none
theorem falls_up {R:Rws} (h:NumK R) {i:Nat} (hi:i<4) {o:OpX} (hb:byO o=(i:Int)) (hn:numO o=((R i).length:Int)+1):Falls (allR (upR R i (R i++ [o])))↔Falls (allR R)\/riseB (R i) o=false:=by
 have hlast:∀y,(R i).getLast? =some y->y∈allR R/\byO y=byO o/\numO y+1=numO o:=fun y hy=>by
  have hy':(R i)[(R i).length - 1]? =some y:=by rw [<-List.getLast?_eq_getElem?];exact hy
  have hl:=(jh.1 hy').1
  obtain ⟨a,b,_⟩:=h i hi _ y hy'
  exact ⟨mem_allR.2 ⟨i,hi,jm hy'⟩,zi,zi⟩
 constructor
 ·rintro ⟨x,hx,y,hy,e1,e2,e3⟩
  rcases (mem_up hi).1 hx with hx1 | rfl
  ·rcases (mem_up hi).1 hy with hy1 | rfl
   ·exact .inl ⟨x,hx1,y,hy1,e1,e2,e3⟩
   refine .inr ?_
   obtain ⟨k,hk,hx'⟩:=mem_allR.1 hx1
   obtain ⟨j,a1,a2,a3,_⟩:=h.get hk hx'
   obtain rfl:k=i:=zi
   have hj:j=(R k).length - 1:=zi
   have hlst:(R k).getLast? =some x:=by rw [List.getLast?_eq_getElem?,<-hj];exact a1
   unfold riseB
   rw [hlst]
   exact decide_eq_false e3
  exfalso
  rcases (mem_up hi).1 hy with hy | rfl
  ·obtain ⟨k,hk,hy'⟩:=mem_allR.1 hy
   obtain ⟨j,a1,a2,a3,_⟩:=h.get hk hy'
   obtain rfl:k=i:=zi
   have:=(jh.1 a1).1
   omega
  omega
 rintro (⟨x,hx,y,hy,q⟩ | hr)
 ·exact ⟨x,(mem_up hi).2 (.inl hx),y,(mem_up hi).2 (.inl hy),q⟩
 unfold riseB at hr
 cases hl:(R i).getLast? with
 | none=>rw [hl] at hr;cases hr
 | some y=>
  rw [hl] at hr
  obtain ⟨a,b,c⟩:=hlast y hl
  exact ⟨y,(mem_up hi).2 (.inl a),o,(mem_up hi).2 (.inr rfl),b,c,of_decide_eq_false hr⟩
theorem withGo_is:∀(F:List OpX) (R:Rws) (z:Bool),NumK R->FreshK (allR R) F->F.Pairwise (fun a b=>numO a<=numO b)->(z=true↔¬Falls (allR R))->
  (withGo R z F=none/\Gap (allR R++F))\/∃R' z',withGo R z F=some (R',z')/\¬Gap (allR R++F)/\NumK R'/\(∀x,x∈allR R'↔x∈allR R++F)/\(z'=true↔¬Falls (allR R++F))/\(allR R').length=(allR R).length+F.length/\∀i,∃t,R' i=R i++t
 | [],R,z,hN,_,_,hz=>.inr ⟨R,z,rfl,by rw [vf];exact hN.nogap,hN,fun x=>by rw [vf],by rw [vf];exact hz,zm,fun i=>⟨[],zm⟩⟩
 | o::t,R,z,hN,hF,hs,hz=>by
  have ho:=hF.ok o jM
  obtain ⟨i,hi,hb,hbn⟩:=by_nat ho
  by_cases hn:numO o=((R i).length:Int)+1
  ·have hN1:=hN.up ho hb hn
   have hF1:FreshK (allR (upR R i (R i++ [o]))) t:=by
    refine ⟨fun x hx=>hF.ok x (jv _ hx),fun x hx y hy=> ?_,(jB.1 hF.one).2⟩
    rcases (mem_up hi).1 hy with hy | rfl
    ·exact hF.off x (jv _ hx) y hy
    exact (jB.1 hF.one).1 x hx
   have hz1:(z &&riseB (R i) o)=true↔¬Falls (allR (upR R i (R i++ [o]))):=by
    rw [falls_up hN hi hb hn,vK,hz]
    cases riseB (R i) o<;>simp
   have hmem:∀x,x∈allR (upR R i (R i++ [o]))++t↔x∈allR R++o::t:=fun x=>by
    simp only [ju,mem_up hi,jn]
    constructor
    ·rintro ((h | h) | h)
     ·exact .inl h
     ·exact .inr (.inl h)
     exact .inr (.inr h)
    rintro (h | h | h)
    ·exact .inl (.inl h)
    ·exact .inl (.inr h)
    exact .inr h
   have hg:withGo R z (o::t)=withGo (upR R i (R i++ [o])) (z &&riseB (R i) o) t:=by rw [withGo,hbn,if_pos hn]
   have hlen:(allR (upR R i (R i++ [o]))).length=(allR R).length+1:=by
    unfold allR upR
    match i,hi with
    | 0,_=>simp;omega
    | 1,_=>simp;omega
    | 2,_=>simp;omega
    | 3,_=>simp;omega
   rcases withGo_is t _ _ hN1 hF1 (jB.1 hs).2 hz1 with ⟨a,b⟩ | ⟨R',z',a,b,c,d,e,f,g⟩
   ·exact .inl ⟨hg.trans a,b.congr hmem⟩
   refine .inr ⟨R',z',hg.trans a,fun q=>b (q.congr (fun x=>(hmem x).symm)),c,fun x=>(d x).trans (hmem x),e.trans (not_congr ⟨fun q=>q.congr hmem,fun q=>q.congr (fun x=>(hmem x).symm)⟩),by rw [f,hlen,jK];omega,fun k=> ?_⟩
   obtain ⟨t',ht'⟩:=g k
   unfold upR at ht'
   split at ht'
   ·rename_i ek
    subst ek
    exact ⟨o::t',by rw [ht'];simp⟩
   exact ⟨t',ht'⟩
  refine .inl ⟨by rw [withGo,hbn,if_neg hn],o,zm,?_,?_⟩
  ·intro h1
   have hlt:0<(R i).length:=zi
   have e:=ji hlt
   obtain ⟨b1,b2,_⟩:=hN i hi 0 _ e
   exact hF.off o jM _ (mem_allR.2 ⟨i,hi,jm e⟩) ⟨zi,zi⟩
  rintro ⟨y,hy,e1,e2⟩
  rcases ju.1 hy with hy | hy
  ·obtain ⟨k,hk,hy⟩:=mem_allR.1 hy
   obtain ⟨j,a1,a2,a3,_⟩:=hN.get hk hy
   obtain rfl:k=i:=zi
   have hj:=(jh.1 a1).1
   have hl:j+1<(R k).length:=by
    rcases vh (j+1) (R k).length with q | q
    ·exact q
    exact absurd zi hn
   have e:=ji hl
   obtain ⟨b1,b2,_⟩:=hN k hk (j+1) _ e
   exact hF.off o jM _ (mem_allR.2 ⟨k,hk,jm e⟩) ⟨zi,by push_cast at b2;omega⟩
  rcases jn.1 hy with rfl | hy
  ·omega
  have:=(jB.1 hs).1 y hy
  omega
structure RowsK (R:Rws):Prop where
 num:NumK R
 well:WellK (allR R)
theorem rowsK_nil:RowsK (fun _=>[]):=⟨numK_nil,by unfold allR;exact wellK_nil⟩
theorem RowsK.nofall {R:Rws} (h:RowsK R):¬Falls (allR R):=fun ⟨x,hx,y,hy,e1,e2,e3⟩=>e3 (h.well.rise x hx y hy e1 e2)
theorem RowsK.rise {R:Rws} (h:RowsK R) (hi:i<4):(R i).Pairwise (fun a b=>CLt (stO a) (stO b)):=by
 rw [jF]
 intro a b ha hb hab
 have ea:=ji ha
 have eb:=ji hb
 obtain ⟨a1,a2,_⟩:=h.num i hi a _ ea
 obtain ⟨b1,b2,_⟩:=h.num i hi b _ eb
 exact h.well.less (mem_allR.2 ⟨i,hi,jm ea⟩) (b - a - 1) (mem_allR.2 ⟨i,hi,jm eb⟩) zi zi
structure RowsN (R:Rws):Prop where
 num:NumK R
 up:∀x∈allR R,∀y∈allR R,byO x=byO y->numO x+1=numO y->CLt (stO x) (stO y)
theorem RowsK.toN {R:Rws} (h:RowsK R):RowsN R:=⟨h.num,h.well.rise⟩
theorem RowsN.less {R:Rws} (h:RowsN R) {x:OpX} (hx:x∈allR R):∀(d:Nat) {y:OpX},y∈allR R->byO x=byO y->numO x+(d+1)=numO y->CLt (stO x) (stO y)
 | 0,y,hy,e1,e2=>h.up x hx y hy e1 zi
 | d+1,y,hy,e1,e2=>by
  rcases h.num.gap y hy with q | ⟨z,hz,z1,z2⟩
  ·have:=num_pos (h.num.ok x hx)
   omega
  exact clt_trans (h.less hx d hz zi zi) (h.up z hz y hy z1 z2)
theorem RowsN.stamp {R:Rws} (h:RowsN R) (hx:x∈allR R) (hy:y∈allR R) (e:stO x=stO y):x=y:=by
 have e1:byO x=byO y:=(Prod.mk.inj e).2
 rcases Int.lt_trichotomy (numO x) (numO y) with q | q | q
 ·have:=h.less hx (numO y - numO x - 1).toNat hy e1 zi
  rw [e] at this
  exact absurd this clt_irrefl
 ·exact h.num.one x hx y hy e1 q
 have:=h.less hy (numO x - numO y - 1).toNat hx e1.symm zi
 rw [e] at this
 exact absurd this clt_irrefl
theorem RowsN.rise {R:Rws} (h:RowsN R) (hi:i<4):(R i).Pairwise (fun a b=>CLt (stO a) (stO b)):=by
 rw [jF]
 intro a b ha hb hab
 have ea:=ji ha
 have eb:=ji hb
 obtain ⟨a1,a2,_⟩:=h.num i hi a _ ea
 obtain ⟨b1,b2,_⟩:=h.num i hi b _ eb
 exact h.less (mem_allR.2 ⟨i,hi,jm ea⟩) (b - a - 1) (mem_allR.2 ⟨i,hi,jm eb⟩) zi zi
def JoinIs (S l:List OpX) (a:(Int×Nat)⊕List OpX):Prop:=match siftS S 0 [] l with
 | .inl (i,c)=>a= .inl ((i:Int),c)
 | .inr fresh=>(Gap (S++fresh)/\a= .inl (-1,9))\/(¬Gap (S++fresh)/\Falls (S++fresh)/\a= .inl (-1,3))\/(¬Gap (S++fresh)/\¬Falls (S++fresh)/\(∃x∈S++fresh,¬RefOk (S++fresh) x)/\a= .inl (-1,6))\/(WellK (S++fresh)/\400<S.length+fresh.length/\a= .inl (-1,8))\/(WellK (S++fresh)/\S.length+fresh.length<=400/\a= .inr fresh)
end
section
def letO (x:OpX):Nat:=(x.2.2.2.2.2.2.2.data.toList.headD 0).toNat
def insO (nd:Int) (x:OpX):Option (Int×Ltr):=if kdO x=105/\nodeO x=nd then some (otherO x,(idO x,letO x,false)) else none
def GoneIn (A:List OpX) (nd id:Int):Prop:=∃x∈A,kdO x=100/\nodeO x=nd/\otherO x=id
theorem goneAny (A:List OpX) (nd id:Int):(A.any fun x=>decide (kdO x=100/\nodeO x=nd/\otherO x=id))=true↔GoneIn A nd id:=by simp [GoneIn]
def decGone (A:List OpX) (nd id:Int):Decidable (GoneIn A nd id):=decidable_of_iff _ (goneAny A nd id)
def hideL (A:List OpX) (nd:Int) (l:Ltr):Ltr:= @ite _ (GoneIn A nd l.1) (decGone A nd l.1) (l.1,0,true) l
theorem hideL_id (A:List OpX) (nd:Int) (l:Ltr):(hideL A nd l).1=l.1:=by unfold hideL;split<;>rfl
theorem hide_ids (A:List OpX) (nd:Int) (L:List Ltr):(L.map (hideL A nd)).map (·.1)=L.map (·.1):=by rw [List.map_map];exact uw fun l _=>hideL_id A nd l
def LineIs (A:List OpX) (nd:Int) (L:List Ltr):Prop:=∃s,s.Perm (A.filterMap (insO nd))/\First s/\L=(putAll s []).map (hideL A nd)
theorem laid_map {f:Ltr->Ltr} (hf:∀l,(f l).1=l.1) {x:Ltr} (hx:f x=x):∀L,laid x (L.map f)=(laid x L).map f
 | []=>by simp [laid,hx]
 | h::t=>by
  by_cases k:x.1<h.1
  ·rw [vA,laid_yes qX,laid_yes k,vA,laid_map hf hx t]
  rw [vA,laid_no qX,laid_no k,vA,vA,hx]
theorem putB_map {f:Ltr->Ltr} (hf:∀l,(f l).1=l.1) {x:Ltr} (hx:f x=x) (b:Int):∀L,putB b x (L.map f)=(putB b x L).map f
 | []=>by simp [putB]
 | h::t=>by
  by_cases k:h.1=b
  ·rw [vA,putB_yes qX,putB_yes k,vA,laid_map hf hx t]
  rw [vA,putB_no qX,putB_no k,vA,putB_map hf hx b t]
theorem put_map (hf:∀l,(f l).1=l.1) {x:Ltr} (hx:f x=x) (b:Int) (L:List Ltr):put b x (L.map f)=(put b x L).map f:=by
 unfold put
 split
 ·exact laid_map hf hx L
 exact putB_map hf hx b L
theorem putAll_ids:∀(n:Nat) (s:List (Int×Ltr)),s.length=n->First s->((putAll s []).map (·.1)).Perm (s.map (·.2.1))
 | 0,s,hn,_=>by rw [jC.1 hn];exact List.Perm.refl _
 | n+1,s,hn,h=>by
  rcases snoc_cases s with rfl | ⟨u,m,rfl⟩
  ·simp at hn
  have hu:=first_init h
  have ih:=putAll_ids n u (by simp at hn;exact hn) hu
  rw [putAll_app,putAll_one]
  have hb:m.1=0\/m.1∈(putAll u []).map (·.1):=by
   rcases h.2.2 u m [] zm with q | ⟨y,hy,q⟩
   ·exact .inl q
   exact .inr (ih.mem_iff.2 (jO.2 ⟨y,hy,q⟩))
  refine (put_ids hb).trans ?_
  rw [jY,vA,List.map_nil]
  exact ((ih.cons m.2.1)).trans (vW (l₁:=[m.2.1]))
theorem LineIs.ids (h:LineIs A nd L):(L.map (·.1)).Perm ((A.filterMap (insO nd)).map (·.2.1)):=by
 obtain ⟨s,h1,h2,rfl⟩:=h
 rw [hide_ids]
 exact (putAll_ids _ s rfl h2).trans (h1.map _)
theorem LineIs.mem (h:LineIs A nd L) :id∈L.map (·.1)↔LetterN A nd id:=by
 rw [h.ids.mem_iff]
 constructor
 ·intro q
  obtain ⟨m,hm,rfl⟩:=jO.1 q
  obtain ⟨x,hx,e⟩:=vO.1 hm
  unfold insO at e
  split at e
  ·rename_i k
   cases e
   exact ⟨x,hx,k.1,k.2,rfl⟩
  cases e
 rintro ⟨x,hx,k1,k2,k3⟩
 exact jO.2 ⟨_,vO.2 ⟨x,hx,if_pos ⟨k1,k2⟩⟩,k3⟩
theorem LineIs.nodup (h:LineIs A nd L):(L.map (·.1)).Nodup:=by
 obtain ⟨s,h1,h2,rfl⟩:=h
 rw [hide_ids]
 exact (putAll_ids _ s rfl h2).nodup_iff.2 h2.1
theorem LineIs.len (h:LineIs A nd L):L.length<=A.length:=by
 have:=h.ids.length_eq
 rw [jG,jG] at this
 rw [this]
 exact List.length_filterMap_le _ _
theorem LineIs.perm {B:List OpX} (h:LineIs A nd L) (e:A.Perm B):LineIs B nd L:=by
 obtain ⟨s,h1,h2,rfl⟩:=h
 have hg:∀id,GoneIn A nd id↔GoneIn B nd id:=fun id=>⟨fun ⟨x,hx,q⟩=>⟨x,e.mem_iff.1 hx,q⟩,fun ⟨x,hx,q⟩=>⟨x,e.mem_iff.2 hx,q⟩⟩
 refine ⟨s,h1.trans (e.filterMap _),h2,uw (fun l _=> ?_)⟩
 unfold hideL
 by_cases q:GoneIn A nd l.1
 ·rw [if_pos q,if_pos ((hg _).1 q)]
 rw [if_neg q,if_neg (fun k=>q ((hg _).2 k))]
theorem LineIs.unique {M:List Ltr} (h:LineIs A nd L) (k:LineIs A nd M):L=M:=by
 obtain ⟨s,h1,h2,rfl⟩:=h
 obtain ⟨r,k1,k2,rfl⟩:=k
 rw [putAll_turned _ s r rfl (h1.trans k1.symm) h2 k2]
theorem LineIs.skip (h:LineIs A nd L) (hx:¬(nodeO x=nd/\(kdO x=105\/kdO x=100))):LineIs (x::A) nd L:=by
 obtain ⟨s,h1,h2,rfl⟩:=h
 refine ⟨s,?_,h2,uw (fun l _=> ?_)⟩
 ·rw [List.filterMap_cons_none (show insO nd x=none from if_neg (fun q=>hx ⟨q.2,.inl q.1⟩))]
  exact h1
 have hg:GoneIn (x::A) nd l.1↔GoneIn A nd l.1:=by
  constructor
  ·rintro ⟨y,hy,q⟩
   rcases jn.1 hy with rfl | hy
   ·exact absurd ⟨q.2.1,.inr q.1⟩ hx
   exact ⟨y,hy,q⟩
  rintro ⟨y,hy,q⟩
  exact ⟨y,jv _ hy,q⟩
 unfold hideL
 by_cases q:GoneIn A nd l.1
 ·rw [if_pos q,if_pos (hg.2 q)]
 rw [if_neg q,if_neg (fun k=>q (hg.1 k))]
theorem LineIs.ins (h:LineIs A nd L) (hk:kdO x=105) (hn:nodeO x=nd) (hnew:idO x∉L.map (·.1)) (hpos:idO x≠0) (ho:otherO x=0\/otherO x∈L.map (·.1)) (hg:¬GoneIn A nd (idO x)):LineIs (x::A) nd (put (otherO x) (idO x,letO x,false) L):=by
 have hids:=h.ids
 obtain ⟨s,h1,h2,rfl⟩:=h
 rw [hide_ids] at hnew ho hids
 have hps:=putAll_ids _ s rfl h2
 have hgo:∀id,GoneIn (x::A) nd id↔GoneIn A nd id:=fun id=>by
  constructor
  ·rintro ⟨y,hy,q⟩
   rcases jn.1 hy with rfl | hy
   ·rw [hk] at q;exact absurd q.1 zo
   exact ⟨y,hy,q⟩
  rintro ⟨y,hy,q⟩
  exact ⟨y,jv _ hy,q⟩
 have hhide:∀l,hideL (x::A) nd l=hideL A nd l:=fun l=>by
  unfold hideL
  by_cases q:GoneIn A nd l.1
  ·rw [if_pos q,if_pos ((hgo _).2 q)]
  rw [if_neg q,if_neg (fun k=>q ((hgo _).1 k))]
 have hxl:hideL A nd (idO x,letO x,false)=(idO x,letO x,false):=if_neg hg
 refine ⟨s++ [(otherO x,(idO x,letO x,false))],?_,⟨?_,?_,?_⟩,?_⟩
 ·rw [List.filterMap_cons_some (show insO nd x=some _ from if_pos ⟨hk,hn⟩)]
  exact (vW).trans (h1.cons _)
 ·rw [jY,vz]
  refine ⟨h2.1,zm,fun a ha b hb=> ?_⟩
  simp at hb
  subst hb
  intro e
  subst e
  exact hnew (hps.mem_iff.2 ha)
 ·intro m hm
  rcases ju.1 hm with hm | hm
  ·exact h2.2.1 m hm
  rw [jD.1 hm];exact hpos
 ·intro u m v e
  rcases snoc_cases v with rfl | ⟨v',q,rfl⟩
  ·obtain ⟨rfl,e2⟩:=uD e rfl
   cases e2
   rcases ho with ho | ho
   ·exact .inl ho
   obtain ⟨y,hy,e⟩:=jO.1 (hps.mem_iff.1 ho)
   exact .inr ⟨y,hy,e⟩
  have e':s++ [(otherO x,(idO x,letO x,false))]=(u++m::v')++ [q]:=by rw [e];simp
  obtain ⟨rfl,_⟩:=uD e' rfl
  exact h2.2.2 u m v' rfl
 rw [putAll_app,putAll_one,put_map (hideL_id A nd) hxl]
 exact uw (fun l _=>(hhide l).symm)
theorem LineIs.del (h:LineIs A nd L) (hk:kdO x=100) (hn:nodeO x=nd) (hf:findL (otherO x) L=some i):LineIs (x::A) nd (L.set i (otherO x,0,true)):=by
 have hnd:=h.nodup
 obtain ⟨s,h1,h2,rfl⟩:=h
 refine ⟨s,?_,h2,?_⟩
 ·rw [List.filterMap_cons_none (show insO nd x=none from if_neg (fun q=>by rw [hk] at q;exact absurd q.1 zo))]
  exact h1
 obtain ⟨l0,hl0,hid⟩:=findL_some hf
 have hgo:∀id,GoneIn (x::A) nd id↔id=otherO x\/GoneIn A nd id:=fun id=>by
  constructor
  ·rintro ⟨y,hy,q⟩
   rcases jn.1 hy with rfl | hy
   ·exact .inl q.2.2.symm
   exact .inr ⟨y,hy,q⟩
  rintro (rfl | ⟨y,hy,q⟩)
  ·exact ⟨x,jM,hk,hn,rfl⟩
  exact ⟨y,jv _ hy,q⟩
 rw [hide_ids] at hnd
 refine List.ext_getElem? (fun j=> ?_)
 rw [List.getElem?_set,jG,jS,jS]
 rw [jS] at hl0
 cases hj:(putAll s [])[j]? with
 | none=>
  have hjl:=List.getElem?_eq_none_iff.1 hj
  split
  ·rename_i e
   subst e
   rw [if_neg zi]
   rfl
  rfl
 | some l=>
  have hjl:=(jh.1 hj).1
  split
  ·rename_i e
   subst e
   rw [if_pos hjl]
   rw [hj] at hl0
   cases hl0
   rw [hideL_id] at hid
   have hq:hideL (x::A) nd l=(l.1,0,true):=if_pos ((hgo _).2 (.inl hid))
   simp only [ut,hq,hid]
  rename_i e
  have hne:l.1≠otherO x:=fun q=>e (by
   have hil:i<(putAll s []).length:=by
    cases hi:(putAll s [])[i]? with
    | none=>rw [hi] at hl0;cases hl0
    | some _=>exact (jh.1 hi).1
   have e1:((putAll s []).map (·.1))[i]? =some (otherO x):=by
    rw [jS]
    cases hi:(putAll s [])[i]? with
    | none=>rw [hi] at hl0;cases hl0
    | some l'=>
     rw [hi] at hl0
     cases hl0
     rw [hideL_id] at hid
     simp [hid]
   have e2:((putAll s []).map (·.1))[j]? =some (otherO x):=by rw [jS,hj];simp [q]
   exact (List.getElem?_inj (by simpa using hil) hnd).1 (e1.trans e2.symm))
  have hq:hideL (x::A) nd l=hideL A nd l:=by
   unfold hideL
   by_cases q:GoneIn A nd l.1
   ·rw [if_pos q,if_pos ((hgo _).2 (.inr q))]
   rw [if_neg q,if_neg (fun k=>((hgo _).1 k).elim hne q)]
  simp only [ut,hq]
theorem LineIs.new (h:∀x∈A,nodeO x=nd->kdO x≠105):LineIs A nd []:=by
 refine ⟨[],?_,⟨zm,fun m hm=>by simp at hm,fun u m v e=>jc⟩,rfl⟩
 rw [show List.filterMap (insO nd) A= [] from List.filterMap_eq_nil_iff.2 (fun x hx=>if_neg (fun q=>h x hx q.2 q.1))]
def movO (x:OpX):Option Mov:=if kdO x=109 then some ((x.1,x.2.1),(nodeO x,otherO x,x.2.2.2.2.2.2.1)) else none
def movsO (A:List OpX):List Mov:=A.filterMap movO
def timeO (A:List OpX) (T:Int):Prop:=(∀x∈A,x.1<=T)/\(T=0\/∃x∈A,x.1=T)/\0<=T
theorem timeO_nil:timeO [] 0:=⟨fun x h=>yw,.inl rfl,Int.le_refl _⟩
theorem timeO_cons {T:Int} (h:timeO A T) (x:OpX) (hx:1<=x.1):timeO (x::A) (if T<x.1 then x.1 else T):=by
 obtain ⟨h1,h2,h3⟩:=h
 split
 ·rename_i q
  refine ⟨fun y hy=> ?_,.inr ⟨x,jM,rfl⟩,zi⟩
  rcases jn.1 hy with rfl | hy
  ·exact Int.le_refl _
  have:=h1 y hy;omega
 rename_i q
 refine ⟨fun y hy=> ?_,h2.imp (fun e=>e) (fun ⟨y,hy,e⟩=>⟨y,jv _ hy,e⟩),h3⟩
 rcases jn.1 hy with rfl | hy
 ·omega
 exact h1 y hy
end
section
open Go.RowKit
end
section
open Go.ChangeShapes Go.WideShapes Go.ChangeAt Go.RowKit Go.Joins
theorem gPow:prog.globalNamed "internal/strconv.uint64pow10" =some 14:=zj
theorem tPow:(prog.globals[14]?).map (·.type)=some 369:=zj
theorem cellsPow:prog.cellsOf 369=20:=zj
theorem cellsU64:prog.cellsOf 336=1:=zj
theorem tab_of {W:World} (h:Lib.VarReads prog W "internal/strconv.uint64pow10" (Lib.tabData .u64 Lib.pow10Tab)):Lib.TabIs prog W "internal/strconv.uint64pow10" .u64 Lib.pow10Tab:=by
 obtain ⟨g,t,cs,fuel,p,hg,ht,hvar,hd⟩:=h
 obtain rfl:=Option.some.inj (gPow.symm.trans hg)
 obtain rfl:=Option.some.inj (tPow.symm.trans ht)
 unfold Lib.TabIs
 rw [hvar,<-Lib.cells_of_tab underlying369 underlying336 cellsU64 cellsPow hd]
