import Derived.Test.YtehighgebbdenaaGreatDoorRa01
import Derived.Sort.LotA
set_option maxHeartbeats 64000000
namespace Go.Proofs.YtehighgebbdenaaGreatDoor
open Go.Proofs.Tryz
variable {b nd:Int} {S T t xs:List OpX} {i n:Nat} {o x y:OpX}
section
open Go.RowKit Go.Lib Go.Sort
def OpsIn (w:World) (ao:Option Addr) (xs:List OpX):Prop:=xs= []\/∃blk off,ao=some ⟨blk,off,none⟩/\∀j u,(cellsOf xs)[j]? =some u->w.cell? ⟨blk,off+j,none⟩=some u
theorem OpsIn.later {w w':World} {ao:Option Addr} (h:OpsIn w ao xs) (hb:Below w.heap.size w w'):OpsIn w' ao xs:=by
 rcases h with h | ⟨g,o,h1,h2⟩
 ·exact .inl h
 exact .inr ⟨g,o,h1,fun j u hj=>aT hb (h2 j u hj)⟩
def lq (x:OpX):Prop:=x.2.2.2.2.2.2.1.size<=60/\x.2.2.2.2.2.2.2.size<=60
theorem IC (m:Nat) (w:World) (ao:Option Addr) (cap:Nat) (xs:List OpX) (h:OpsIn w ao xs) (hn:xs.length<9223372036854775808):
  Calls prog 9 #[.slice ao xs.length cap,.int .i64 (m:Int)] w fun e w'=>(e= .returned (.int .i64 1)\/(e= .returned (.int .i64 0)/\xs.length<=m/\∀j,j<xs.length->lq xs[j]!))/\w'=w:=by
 have HC:Aside (OpsIn w ao xs):=h;clear h;by_cases hl:xs.length<=m
 ·have q0:decide ((m:Int)<(xs.length:Int))=false:=by simp;omega
  have q1:decide (m<xs.length)=false:=decide_eq_false zo;go_enter func9,ntmps9;go_wp2;clear q0 q1;go_loopg [5] xs.length (fun kx s5 wr=>∃(i:Nat),s5= .int .i64 (i:Int)/\i<=xs.length/\xs.length - i<=kx/\wr=w/\∀j,j<i->lq xs[j]!)
  case atStart=>exact ⟨0,rfl,vV _,vM _,rfl,fun j hj=>absurd hj (Nat.not_lt_zero _)⟩
  case round=>
   obtain ⟨i,rfl,hi,hkx,rfl,hS⟩:=hrel;have HS:Aside (∀j,j<i->lq xs[j]!):=hS;clear hS;by_cases hlt:i<xs.length
   ·have hltz:decide ((i:Int)<(xs.length:Int))=true:=by simp;omega
    have ex:((i:Int)).toNat=i:=zo;have px:(0:Int)<=(i:Int):=zo;have bx:(i:Int)<(xs.length:Int):=zo
    obtain ⟨b,off,rfl,hc⟩:∃b off,ao=some ⟨b,off,none⟩/\∀j u,(cellsOf xs)[j]? =some u->wr.cell? ⟨b,off+j,none⟩=some u:=by
     rcases HC.o with h0 | h1
     ·subst h0;simp at hlt
     exact h1
    obtain ⟨nm,c6,e6⟩:∃nm:ByteArray,wr.cell? ⟨b,off+i*8+6,none⟩=some (.string nm)/\Aside (nm=(xs[i]!).2.2.2.2.2.2.1):=⟨_,iT hc i 6 hlt zo,rfl⟩
    obtain ⟨vl,c7,e7⟩:∃vl:ByteArray,wr.cell? ⟨b,off+i*8+7,none⟩=some (.string vl)/\Aside (vl=(xs[i]!).2.2.2.2.2.2.2):=⟨_,iT hc i 7 hlt zo,rfl⟩
    clear hc HC;by_cases h1:(60:Int)<(nm.size:Int)
    ·have d1:decide ((60:Int)<(nm.size:Int))=true:=decide_eq_true h1;exact kq2
    have d1:decide ((60:Int)<(nm.size:Int))=false:=decide_eq_false h1;by_cases h2:(60:Int)<(vl.size:Int)
    ·have d2:decide ((60:Int)<(vl.size:Int))=true:=decide_eq_true h2;exact kq2
    have d2:decide ((60:Int)<(vl.size:Int))=false:=decide_eq_false h2;go_wp2;go_roundg (xs.length - (i+1))
    case measure=>omega
    case rel=>
     refine ⟨i+1,zD,zo,vM _,rfl,fun j hj=> ?_⟩
     rcases uJ j i with h | h
     ·exact HS.o j h
     obtain rfl:j=i:=zo;exact ⟨by rw [<-e6.o];omega,by rw [<-e7.o];omega⟩
   have hltz:decide ((i:Int)<(xs.length:Int))=false:=zr;go_wp2;go_ret;exact ⟨.inr ⟨rfl,hl,fun j hj=>HS.o j zo⟩,rfl⟩
 have q0:decide ((m:Int)<(xs.length:Int))=true:=zr;have q1:decide (m<xs.length)=true:=decide_eq_true zo;go_enter func9,ntmps9;exact kq2
end
section
def an (x:OpX):Nat:=opE x.1 x.2.1 x.2.2.1 x.2.2.2.1 x.2.2.2.2.1 x.2.2.2.2.2.1 x.2.2.2.2.2.2.1.data.toList x.2.2.2.2.2.2.2.data.toList
def Iu (x:OpX):bU:=(x.2.2.2.2.1,x.2.2.2.2.2.2.1)
def oW (x:OpX):aG:=(x.2.2.2.2.2.2.2,(x.1,x.2.1))
def CT (x:OpX):Option (bU×aG):=if an x=0/\x.2.2.2.1=115 then some (Iu x,oW x) else none
def fF (xs:List OpX):List (bU×aG):=xs.filterMap CT
theorem Be (xs ys:List OpX):fF (xs++ys)=fF xs++fF ys:=List.filterMap_append
def dh (xs:List OpX):cA:=lH (fF xs) noC
def kC (f:cA) (x:OpX):cA:=if an x=0/\x.2.2.2.1=115 then lC f (Iu x,oW x) else f
theorem ib (xs:List OpX) (x:OpX):dh (xs++ [x])=kC (dh xs) x:=by
 unfold dh kC;rw [Be];by_cases h:an x=0/\x.2.2.2.1=115
 ·have e:fF [x]= [(Iu x,oW x)]:=by simp [fF,CT,h]
  rw [e,nT,if_pos h]
 have e:fF [x]= []:=by simp [fF,CT,h]
 rw [e,Zi,if_neg h]
def OneO (xs:List OpX):Prop:=∀x∈xs,∀y∈xs,x.1=y.1->x.2.1=y.2.1->x=y
theorem ik {m:bU×aG} (h:CT x=some m):m=(Iu x,oW x):=by
 unfold CT at h;split at h
 ·exact (Option.some.inj h).symm
 cases h
theorem OneO.marks (h:OneO xs):Lz (fF xs):=by
 intro k c d hc hd e;obtain ⟨x,hx,ex⟩:=Zv.1 hc;obtain ⟨y,hy,ey⟩:=Zv.1 hd;have e1:=ik ex;have e2:=ik ey;have c1:c=oW x:=(Prod.mk.inj e1).2;have d1:d=oW y:=(Prod.mk.inj e2).2;subst c1;subst d1;have e3:(x.1,x.2.1)=(y.1,y.2.1):=e;rw [h x hx y hy (Prod.mk.inj e3).1 (Prod.mk.inj e3).2]
end
section
abbrev byO (x:OpX):Int:=x.2.1
abbrev ar (x:OpX):Int:=x.2.2.1
abbrev kdO (x:OpX):Nat:=x.2.2.2.1
abbrev aL (x:OpX):Int:=x.2.2.2.2.1
abbrev aJ (x:OpX):Int:=x.2.2.2.2.2.1
def idO (x:OpX):Int:=x.1*4+x.2.1
def stO (x:OpX):Int×Int:=(x.1,x.2.1)
def KnownN (S:List OpX) (nd:Int):Prop:=∃x∈S,kdO x=109/\aL x=nd/\idO x=nd
def LetterN (S:List OpX) (nd id:Int):Prop:=∃x∈S,kdO x=105/\aL x=nd/\idO x=id
def RefOk (S:List OpX) (x:OpX):Prop:=((kdO x=109/\idO x=aL x)\/KnownN S (aL x))/\(kdO x=109->aJ x=0\/aJ x=1\/KnownN S (aJ x))/\((kdO x=105/\0<aJ x)\/kdO x=100->LetterN S (aL x) (aJ x))
theorem KnownN.mono (h:∀x,x∈S->x∈T) (k:KnownN S nd):KnownN T nd:=by
 obtain ⟨x,hx,k⟩:=k;exact ⟨x,h x hx,k⟩
theorem LetterN.mono (h:∀x,x∈S->x∈T) {id:Int} (k:LetterN S nd id):LetterN T nd id:=by
 obtain ⟨x,hx,k⟩:=k;exact ⟨x,h x hx,k⟩
theorem RefOk.mono {S T:List OpX} (h:∀x,x∈S->x∈T) {x:OpX} (k:RefOk S x):RefOk T x:=
 ⟨k.1.imp (fun e=>e) (KnownN.mono h),fun e=>(k.2.1 e).imp (fun e=>e) (fun e=>e.imp (fun e=>e) (KnownN.mono h)),fun e=>(k.2.2 e).mono h⟩
structure WellK (S:List OpX):Prop where
 ok:∀x∈S,an x=0
 one:∀x∈S,∀y∈S,byO x=byO y->ar x=ar y->x=y
 gap:∀x∈S,ar x=1\/∃y∈S,byO y=byO x/\ar y+1=ar x
 rise:∀x∈S,∀y∈S,byO x=byO y->ar x+1=ar y->CLt (stO x) (stO y)
 refs:∀x∈S,RefOk S x
theorem Ez:WellK []:=⟨fun x h=>qu,fun x h=>qu,fun x h=>qu,fun x h=>qu,fun x h=>qu⟩
theorem WellK.congr (h:WellK S) (e:∀x,x∈S↔x∈T):WellK T:=
 ⟨fun x hx=>h.ok x ((e x).2 hx),fun x hx y hy=>h.one x ((e x).2 hx) y ((e y).2 hy),fun x hx=>(h.gap x ((e x).2 hx)).imp (fun q=>q) (fun ⟨y,hy,q⟩=>⟨y,(e y).1 hy,q⟩),fun x hx y hy=>h.rise x ((e x).2 hx) y ((e y).2 hy),fun x hx=>(h.refs x ((e x).2 hx)).mono (fun y hy=>(e y).1 hy)⟩
def Compat (S T:List OpX):Prop:=∀x∈S,∀y∈T,byO x=byO y->ar x=ar y->x=y
theorem Compat.symm {S T:List OpX} (h:Compat S T):Compat T S:=fun x hx y hy e1 e2=>(h y hy x hx e1.symm e2.symm).symm
theorem oh (h:an x=0):1<=ar x:=(aq h).2.2.2.2.1
theorem WellK.union (hS:WellK S) (hT:WellK T) (hc:Compat S T):WellK (S++T):=by
 have across:∀ {A B:List OpX},WellK A->WellK B->Compat A B->∀x∈A,∀y∈B,byO x=byO y->ar x+1=ar y->CLt (stO x) (stO y):=fun {A B} hA hB hAB x hx y hy e1 e2=>by
  rcases hB.gap y hy with q | ⟨z,hz,z1,z2⟩
  ·have:=oh (hA.ok x hx);omega
  obtain rfl:=hAB x hx z hz zo zo;exact hB.rise x hz y hy e1 e2
 refine ⟨fun x hx=> ?_,fun x hx y hy e1 e2=> ?_,fun x hx=> ?_,fun x hx y hy e1 e2=> ?_,fun x hx=> ?_⟩
 ·rcases vW.1 hx with h | h
  ·exact hS.ok x h
  exact hT.ok x h
 ·rcases vW.1 hx with h | h<;>rcases vW.1 hy with k | k
  ·exact hS.one x h y k e1 e2
  ·exact hc x h y k e1 e2
  ·exact hc.symm x h y k e1 e2
  exact hT.one x h y k e1 e2
 ·rcases vW.1 hx with h | h
  ·exact (hS.gap x h).imp (fun q=>q) (fun ⟨y,hy,q⟩=>⟨y,uF _ hy,q⟩)
  exact (hT.gap x h).imp (fun q=>q) (fun ⟨y,hy,q⟩=>⟨y,uL _ hy,q⟩)
 ·rcases vW.1 hx with h | h<;>rcases vW.1 hy with k | k
  ·exact hS.rise x h y k e1 e2
  ·exact across hS hT hc x h y k e1 e2
  ·exact across hT hS hc.symm x h y k e1 e2
  exact hT.rise x h y k e1 e2
 rcases vW.1 hx with h | h
 ·exact (hS.refs x h).mono (fun y hy=>uF _ hy)
 exact (hT.refs x h).mono (fun y hy=>uL _ hy)
theorem WellK.down {S:List OpX} (h:WellK S) {x:OpX} (hx:x∈S):∀(d:Nat) (m:Int),1<=m->m+d=ar x->∃y∈S,byO y=byO x/\ar y=m
 | 0,m,_,e=>⟨x,hx,rfl,zo⟩
 | d+1,m,h1,e=>by
  obtain ⟨y,hy,b1,b2⟩:=h.down hx d (m+1) zo zo
  rcases h.gap y hy with q | ⟨z,hz,z1,z2⟩
  ·omega
  exact ⟨z,hz,zo,zo⟩
theorem WellK.less {S:List OpX} (h:WellK S) {x:OpX} (hx:x∈S):∀(d:Nat) {y:OpX},y∈S->byO x=byO y->ar x+(d+1)=ar y->CLt (stO x) (stO y)
 | 0,y,hy,e1,e2=>h.rise x hx y hy e1 zo
 | d+1,y,hy,e1,e2=>by
  rcases h.gap y hy with q | ⟨z,hz,z1,z2⟩
  ·have:=oh (h.ok x hx);omega
  exact eC (h.less hx d hz zo zo) (h.rise z hz y hy z1 z2)
theorem WellK.stamp (h:WellK S) (hx:x∈S) (hy:y∈S) (e:stO x=stO y):x=y:=by
 have e1:byO x=byO y:=(Prod.mk.inj e).2
 rcases Int.lt_trichotomy (ar x) (ar y) with q | q | q
 ·have:=h.less hx (ar y - ar x - 1).toNat hy e1 zo;exact kn2
 ·exact h.one x hx y hy e1 q
 have:=h.less hy (ar x - ar y - 1).toNat hx e1.symm zo;exact kn2
theorem WellK.add {S:List OpX} (h:WellK S) {x:OpX} (hok:an x=0) (hn:ar x=1\/∃y∈S,byO y=byO x/\ar y+1=ar x) (hnew:∀y∈S,byO y=byO x->ar y<ar x) (hst:∀y∈S,CLt (stO y) (stO x)) (hr:RefOk (x::S) x):WellK (x::S):=by
 have sub:∀y,y∈S->y∈x::S:=fun y hy=>ul _ hy
 refine ⟨fun y hy=> ?_,fun y hy z hz e1 e2=> ?_,fun y hy=> ?_,fun y hy z hz e1 e2=> ?_,fun y hy=> ?_⟩
 ·rcases vT.1 hy with rfl | hy
  ·exact hok
  exact h.ok y hy
 ·rcases vT.1 hy with e | ky<;>rcases vT.1 hz with e' | kz
  ·rw [e,e']
  ·rw [e] at e1 e2;have:=hnew z kz e1.symm;omega
  ·rw [e'] at e1 e2;have:=hnew y ky e1;omega
  exact h.one y ky z kz e1 e2
 ·rcases vT.1 hy with e | hy
  ·subst e;exact hn.imp (fun q=>q) (fun ⟨z,hz,q⟩=>⟨z,sub z hz,q⟩)
  exact (h.gap y hy).imp (fun q=>q) (fun ⟨z,hz,q⟩=>⟨z,sub z hz,q⟩)
 ·rcases vT.1 hy with e | ky<;>rcases vT.1 hz with e' | kz
  ·rw [e,e'] at e2;omega
  ·rw [e] at e1 e2;have:=hnew z kz e1.symm;omega
  ·rw [e'];exact hst y ky
  exact h.rise y ky z kz e1 e2
 rcases vT.1 hy with e | hy
 ·rw [e];exact hr
 exact (h.refs y hy).mono sub
theorem ri {L M:List OpX} (hL:L.Pairwise (fun a b=>CLt (stO a) (stO b))) (hM:M.Pairwise (fun a b=>CLt (stO a) (stO b))) (e:∀x,x∈L↔x∈M):L=M:=
 fH (R:=fun a b=>CLt (stO a) (stO b)) (fun _=>cX) (fun _ _ _=>eC) hL hM e
structure FolkK (n:Nat) (K:Nat->List OpX):Prop where
 well:∀r,r<n->WellK (K r)
 compat:∀r,r<n->∀s,s<n->Compat (K r) (K s)
 own:∀r,r<n->∀s,s<n->∀x∈K r,byO x=(s:Int)->x∈K s
theorem FolkK.join {K:Nat->List OpX} (h:FolkK n K) {a b:Nat} (ha:a<n) (hb:b<n) {J:List OpX} (hJ:∀x,x∈J↔x∈K a\/x∈K b):FolkK n (fun r=>if r=a then J else K r):=by
 have hw:WellK J:=((h.well a ha).union (h.well b hb) (h.compat a ha b hb)).congr (fun x=>by rw [hJ,vW])
 have hin:∀r,r<n->∀x∈(if r=a then J else K r),∃q,q<n/\x∈K q:=fun r hr x hx=>by
  split at hx
  ·rcases (hJ x).1 hx with e | e
   ·exact ⟨a,ha,e⟩
   exact ⟨b,hb,e⟩
  exact ⟨r,hr,hx⟩
 refine ⟨fun r hr=> ?_,fun r hr s hs x hx y hy e1 e2=> ?_,fun r hr s hs x hx e=> ?_⟩
 ·split
  ·exact hw
  exact h.well r hr
 ·obtain ⟨q,hq,hx⟩:=hin r hr x hx;obtain ⟨q',hq',hy⟩:=hin s hs y hy;exact h.compat q hq q' hq' x hx y hy e1 e2
 obtain ⟨q,hq,hx⟩:=hin r hr x hx;have:=h.own q hq s hs x hx e;split
 ·rename_i es;subst es;exact (hJ x).2 (.inl this)
 exact this
end
section
def av (S:List OpX) (b n:Int):Option OpX:=S.find? (fun x=>decide (byO x=b/\ar x=n))
theorem eE {n:Int} (h:av S b n=some x):x∈S/\byO x=b/\ar x=n:=by
 unfold av at h;exact ks9
theorem lookK_none {n:Int} :av S b n=none↔∀x∈S,¬(byO x=b/\ar x=n):=by
 unfold av;rw [List.find?_eq_none];simp
theorem ip (S T:List OpX) (b n:Int):av (S++T) b n=(av S b n).or (av T b n):=by
 unfold av;rw [List.find?_append]
theorem oq (h1:∀x∈S,∀y∈S,byO x=byO y->ar x=ar y->x=y) (hx:x∈S):av S (byO x) (ar x)=some x:=by
 cases h:av S (byO x) (ar x) with
 | none=>exact absurd ⟨rfl,rfl⟩ (lookK_none.1 h x hx)
 | some y=>
  obtain ⟨a,b,c⟩:=eE h;rw [h1 x hx y a b.symm c.symm]
def Is (x y:OpX):Bool:=decide (x.1=y.1/\x.2.1=y.2.1/\x.2.2.1=y.2.2.1/\x.2.2.2.1=y.2.2.2.1/\x.2.2.2.2.1=y.2.2.2.2.1/\x.2.2.2.2.2.1=y.2.2.2.2.2.1/\x.2.2.2.2.2.2.1.data.toList=y.2.2.2.2.2.2.1.data.toList/\x.2.2.2.2.2.2.2.data.toList=y.2.2.2.2.2.2.2.data.toList)
theorem gL {a b:ByteArray} (h:a.data.toList=b.data.toList):a=b:=by
 cases a;cases b
 simpa [Array.toList_inj] using h
theorem sameX_iff :Is x y=true↔x=y:=by
 unfold Is;rw [decide_eq_true_iff];constructor
 ·intro h;obtain ⟨a,b,c,d,e,f,g,i⟩:=x;obtain ⟨a',b',c',d',e',f',g',i'⟩:=y;obtain ⟨h1,h2,h3,h4,h5,h6,h7,h8⟩:=h;simp only at h1 h2 h3 h4 h5 h6 h7 h8;rw [h1,h2,h3,h4,h5,h6,gL h7,gL h8]
 intro h;rw [h];exact ⟨rfl,rfl,rfl,rfl,rfl,rfl,rfl,rfl⟩
def bp (S:List OpX):Nat->List OpX->List OpX->(Nat×Nat)⊕List OpX
 | _,fresh,[]=>.inr fresh
 | i,fresh,o::t=>if an o=0 then (match av (S++fresh) (byO o) (ar o) with
   | none=>bp S (i+1) (fresh++ [o]) t
   | some x=>if Is x o=true then bp S (i+1) fresh t else .inl (i,7)) else .inl (i,an o)
theorem gM {fresh:List OpX} (h:an o≠0):bp S i fresh (o::t)= .inl (i,an o):=by
 rw [bp,if_neg h]
theorem fI {fresh:List OpX} (h:an o=0) (hl:av (S++fresh) (byO o) (ar o)=none):bp S i fresh (o::t)=bp S (i+1) (fresh++ [o]) t:=by
 rw [bp,if_pos h,hl]
theorem dL {fresh:List OpX} (h:an o=0) (hl:av (S++fresh) (byO o) (ar o)=some o):bp S i fresh (o::t)=bp S (i+1) fresh t:=by
 rw [bp,if_pos h,hl];exact if_pos (sameX_iff.2 rfl)
theorem dR {fresh:List OpX} (h:an o=0) (hl:av (S++fresh) (byO o) (ar o)=some x) (hx:x≠o):bp S i fresh (o::t)= .inl (i,7):=by
 rw [bp,if_pos h,hl];exact if_neg (fun q=>hx (sameX_iff.1 q))
structure FreshK (S fresh:List OpX):Prop where
 ok:∀x∈fresh,an x=0
 off:∀x∈fresh,∀y∈S,¬(byO y=byO x/\ar y=ar x)
 one:fresh.Pairwise (fun x y=>¬(byO x=byO y/\ar x=ar y))
theorem dV (S:List OpX):FreshK S []:=⟨fun x h=>qu,fun x h=>qu,List.Pairwise.nil⟩
theorem FreshK.snoc {fresh:List OpX} (h:FreshK S fresh) (ho:an o=0) (hl:av (S++fresh) (byO o) (ar o)=none):FreshK S (fresh++ [o]):=by
 have hn:=lookK_none.1 hl;refine ⟨fun x hx=> ?_,fun x hx=> ?_,?_⟩
 ·rcases vW.1 hx with h1 | h1
  ·exact h.ok x h1
  rw [uq.1 h1];exact ho
 ·rcases vW.1 hx with h1 | h1
  ·exact h.off x h1
  rw [uq.1 h1]
  exact fun y hy=>hn y (uF _ hy)
 refine uY.2 ⟨h.one,Yb _ _,fun x hx y hy=> ?_⟩;rw [uq.1 hy];exact hn x (uL _ hx)
theorem dE {S:List OpX} :∀ {l:List OpX} {i:Nat} {fresh out:List OpX},FreshK S fresh->bp S i fresh l= .inr out->FreshK S out/\(∀x,x∈out->x∈fresh\/x∈l)/\(∀x,x∈fresh->x∈out)/\(∀x∈l,x∈S\/x∈out)/\out.length<=fresh.length+l.length
 | [],_,_,_,hF,h=>by
  rw [bp] at h
  cases h
  exact ⟨hF,fun x hx=>.inl hx,fun x hx=>hx,fun x hx=>qP,zv⟩
 | o::t,i,fresh,out,hF,h=>by
  by_cases ho:an o=0
  ·cases hl:av (S++fresh) (byO o) (ar o) with
   | none=>
    rw [fI ho hl] at h;obtain ⟨k1,k2,k3,k4,k5⟩:=dE (hF.snoc ho hl) h;refine ⟨k1,fun x hx=> ?_,fun x hx=>k3 x (uF _ hx),fun x hx=> ?_,by simp at k5 |-;omega⟩
    ·rcases k2 x hx with q | q
     ·rcases vW.1 q with q | q
      ·exact .inl q
      exact .inr (by rw [uq.1 q];exact uv)
     exact .inr (ul _ q)
    rcases vT.1 hx with rfl | hx
    ·exact .inr (k3 x zv)
    exact k4 x hx
   | some x=>
    by_cases hx:x=o
    ·subst hx;rw [dL ho hl] at h;obtain ⟨k1,k2,k3,k4,k5⟩:=dE hF h;refine ⟨k1,fun y hy=>(k2 y hy).imp (fun q=>q) (fun q=>ul _ q),k3,fun y hy=> ?_,by simp at k5 |-;omega⟩
     rcases vT.1 hy with rfl | hy
     ·rcases vW.1 (eE hl).1 with q | q
      ·exact .inl q
      exact .inr (k3 _ q)
     exact k4 y hy
    rw [dR ho hl hx] at h
    cases h
  rw [gM ho] at h
  cases h
theorem mZ {S T:List OpX} (h1:∀x∈S,∀y∈S,byO x=byO y->ar x=ar y->x=y) (hT:∀x∈T,∀y∈T,byO x=byO y->ar x=ar y->x=y) (hc:Compat S T) (hok:∀x∈T,an x=0):
  ∀ {l:List OpX} (i:Nat) {fresh:List OpX},(∀x∈l,x∈T)->(∀x∈fresh,x∈T)->∃out,bp S i fresh l= .inr out/\∀x∈out,x∈T
 | [],i,fresh,_,hf=>⟨fresh,rfl,hf⟩
 | o::t,i,fresh,hl,hf=>by
  have ho:=hok o (hl o uv)
  cases hk:av (S++fresh) (byO o) (ar o) with
  | none=>
   rw [fI ho hk];refine mZ h1 hT hc hok (i+1) (fun x hx=>hl x (ul _ hx)) (fun x hx=> ?_)
   rcases vW.1 hx with q | q
   ·exact hf x q
   rw [uq.1 q];exact hl o uv
  | some x=>
   obtain ⟨a,b,c⟩:=eE hk
   have hx:x=o:=by
    rcases vW.1 a with q | q
    ·exact hc x q o (hl o uv) b c
    exact hT x (hf x q) o (hl o uv) b c
   subst hx;rw [dL ho hk];exact mZ h1 hT hc hok (i+1) (fun x hx=>hl x (ul _ hx)) hf
abbrev Rws:=Nat->List OpX
def aR (R:Rws):List OpX:=R 0++(R 1++(R 2++R 3))
theorem mem_allR {R:Rws} :x∈aR R↔∃i,i<4/\x∈R i:=by
 unfold aR;simp only [vW];constructor
 ·rintro (h | h | h | h)
  ·exact ⟨0,zo,h⟩
  ·exact ⟨1,zo,h⟩
  ·exact ⟨2,zo,h⟩
  exact ⟨3,zo,h⟩
 rintro ⟨i,hi,h⟩
 match i,hi with
 | 0,_=>exact .inl h
 | 1,_=>exact .inr (.inl h)
 | 2,_=>exact .inr (.inr (.inl h))
 | 3,_=>exact .inr (.inr (.inr h))
def NumK (R:Rws):Prop:=∀i:Nat,i<4->∀(j:Nat) (x:OpX),(R i)[j]? =some x->byO x=(i:Int)/\ar x=(j:Int)+1/\an x=0
def upR (R:Rws) (i:Nat) (l:List OpX):Rws:=fun j=>if j=i then l else R j
theorem Fw:NumK (fun _=>[]):=fun i _ j x h=>qu
theorem rp (h:an x=0):∃i:Nat,i<4/\byO x=(i:Int)/\(byO x).toNat=i:=by
 have h0:=aq h;have h1:0<=byO x:=h0.2.2.1;have h2:byO x<4:=h0.2.2.2.1;exact ⟨(byO x).toNat,zo,zo,rfl⟩
theorem NumK.get {R:Rws} (h:NumK R) (hi:i<4) (hx:x∈R i):∃j:Nat,(R i)[j]? =some x/\byO x=(i:Int)/\ar x=(j:Int)+1/\an x=0:=by
 obtain ⟨j,hj,rfl⟩:=uN hx;have e:=vN hj;exact ⟨j,e,h i hi j _ e⟩
theorem NumK.one {R:Rws} (h:NumK R):∀x∈aR R,∀y∈aR R,byO x=byO y->ar x=ar y->x=y:=by
 intro x hx y hy e1 e2;obtain ⟨i,hi,hx⟩:=mem_allR.1 hx;obtain ⟨k,hk,hy⟩:=mem_allR.1 hy;obtain ⟨j,a1,a2,a3,_⟩:=h.get hi hx;obtain ⟨j',b1,b2,b3,_⟩:=h.get hk hy;obtain rfl:i=k:=zo;obtain rfl:j=j':=zo;rw [a1] at b1;exact Option.some.inj b1
theorem NumK.ok {R:Rws} (h:NumK R):∀x∈aR R,an x=0:=by
 intro x hx;obtain ⟨i,hi,hx⟩:=mem_allR.1 hx;obtain ⟨_,_,_,_,h⟩:=h.get hi hx;exact h
theorem NumK.gap {R:Rws} (h:NumK R):∀x∈aR R,ar x=1\/∃y∈aR R,byO y=byO x/\ar y+1=ar x:=by
 intro x hx;obtain ⟨i,hi,hx⟩:=mem_allR.1 hx;obtain ⟨j,a1,a2,a3,_⟩:=h.get hi hx
 cases j with
 | zero=>exact .inl zo
 | succ j=>
  have hl:=(vL.1 a1).1;have e:=vN (show j<(R i).length by omega);obtain ⟨b1,b2,_⟩:=h i hi j _ e;exact .inr ⟨_,mem_allR.2 ⟨i,hi,vQ e⟩,zo,zo⟩
theorem NumK.look {R:Rws} (h:NumK R) (hi:i<4):av (aR R) (i:Int) ((n:Int)+1)=(R i)[n]? :=by
 cases e:(R i)[n]? with
 | none=>
  refine lookK_none.2 (fun x hx ⟨e1,e2⟩=> ?_);obtain ⟨k,hk,hx⟩:=mem_allR.1 hx;obtain ⟨j,a1,a2,a3,_⟩:=h.get hk hx;obtain rfl:k=i:=zo;obtain rfl:j=n:=zo;rw [a1] at e
  cases e
 | some x=>
  obtain ⟨b1,b2,_⟩:=h i hi n x e;rw [<-b1,<-b2];exact oq h.one (mem_allR.2 ⟨i,hi,vQ e⟩)
theorem iv {R:Rws} (hi:i<4) :x∈aR (upR R i (R i++ [o]))↔x∈aR R\/x=o:=by
 constructor
 ·intro h;obtain ⟨k,hk,h⟩:=mem_allR.1 h;unfold upR at h;split at h
  ·rename_i e;subst e
   rcases vW.1 h with h | h
   ·exact .inl (mem_allR.2 ⟨_,hk,h⟩)
   exact .inr (uq.1 h)
  exact .inl (mem_allR.2 ⟨k,hk,h⟩)
 rintro (h | rfl)
 ·obtain ⟨k,hk,h⟩:=mem_allR.1 h;refine mem_allR.2 ⟨k,hk,?_⟩;unfold upR;split
  ·rename_i e;subst e;exact uF _ h
  exact h
 refine mem_allR.2 ⟨i,hi,?_⟩;unfold upR;rw [if_pos rfl];simp
theorem NumK.up {R:Rws} (h:NumK R) {i:Nat} {o:OpX} (ho:an o=0) (hb:byO o=(i:Int)) (hn:ar o=((R i).length:Int)+1):NumK (upR R i (R i++ [o])):=by
 intro k hk j x hx;unfold upR at hx;split at hx
 ·rename_i e;subst e;rw [List.getElem?_append] at hx;split at hx
  ·exact h _ hk j x hx
  rename_i hj;obtain ⟨d,hd⟩:=zc (j - (R k).length);rw [<-hd] at hx
  cases d with
  | zero=>
   cases hx
   exact ⟨hb,zo,ho⟩
  | succ d=>simp at hx
 exact h k hk j x hx
def Gap (S:List OpX):Prop:=∃x∈S,ar x≠1/\¬∃y∈S,byO y=byO x/\ar y+1=ar x
def Falls (S:List OpX):Prop:=∃x∈S,∃y∈S,byO x=byO y/\ar x+1=ar y/\¬CLt (stO x) (stO y)
theorem Gap.congr (e:∀x,x∈S↔x∈T) (h:Gap S):Gap T:=by
 obtain ⟨x,hx,h1,h2⟩:=h;exact ⟨x,(e x).1 hx,h1,fun ⟨y,hy,q⟩=>h2 ⟨y,(e y).2 hy,q⟩⟩
theorem Falls.congr (e:∀x,x∈S↔x∈T) (h:Falls S):Falls T:=by
 obtain ⟨x,hx,y,hy,q⟩:=h;exact ⟨x,(e x).1 hx,y,(e y).1 hy,q⟩
theorem NumK.nogap {R:Rws} (h:NumK R):¬Gap (aR R):=fun ⟨x,hx,h1,h2⟩=>by
 rcases h.gap x hx with q | q
 ·exact h1 q
 exact h2 q
def fT (l:List OpX) (o:OpX):Bool:=match l.getLast? with
 | none=>true
 | some y=>decide (CLt (stO y) (stO o))
def dK:Rws->Bool->List OpX->Option (Rws×Bool)
 | R,z,[]=>some (R,z)
 | R,z,o::t=>if ar o=((R (byO o).toNat).length:Int)+1 then dK (upR R (byO o).toNat (R (byO o).toNat++ [o])) (z &&fT (R (byO o).toNat) o) t else none
theorem Hp {R:Rws} (h:NumK R) {i:Nat} (hi:i<4) {o:OpX} (hb:byO o=(i:Int)) (hn:ar o=((R i).length:Int)+1):Falls (aR (upR R i (R i++ [o])))↔Falls (aR R)\/fT (R i) o=false:=by
 have hlast:∀y,(R i).getLast? =some y->y∈aR R/\byO y=byO o/\ar y+1=ar o:=fun y hy=>by
  have hy':(R i)[(R i).length - 1]? =some y:=by rw [<-ZZ];exact hy
  have hl:=(vL.1 hy').1;obtain ⟨a,b,_⟩:=h i hi _ y hy';exact ⟨mem_allR.2 ⟨i,hi,vQ hy'⟩,zo,zo⟩
 constructor
 ·rintro ⟨x,hx,y,hy,e1,e2,e3⟩
  rcases (iv hi).1 hx with hx1 | rfl
  ·rcases (iv hi).1 hy with hy1 | rfl
   ·exact .inl ⟨x,hx1,y,hy1,e1,e2,e3⟩
   refine .inr ?_;obtain ⟨k,hk,hx'⟩:=mem_allR.1 hx1;obtain ⟨j,a1,a2,a3,_⟩:=h.get hk hx';obtain rfl:k=i:=zo;have hj:j=(R k).length - 1:=zo
   have hlst:(R k).getLast? =some x:=by rw [ZZ,<-hj];exact a1
   unfold fT;rw [hlst];exact decide_eq_false e3
  exfalso
  rcases (iv hi).1 hy with hy | rfl
  ·obtain ⟨k,hk,hy'⟩:=mem_allR.1 hy;obtain ⟨j,a1,a2,a3,_⟩:=h.get hk hy';obtain rfl:k=i:=zo;have:=(vL.1 a1).1;omega
  omega
 rintro (⟨x,hx,y,hy,q⟩ | hr)
 ·exact ⟨x,(iv hi).2 (.inl hx),y,(iv hi).2 (.inl hy),q⟩
 unfold fT at hr
 cases hl:(R i).getLast? with
 | none=>rw [hl] at hr;cases hr
 | some y=>
  rw [hl] at hr;obtain ⟨a,b,c⟩:=hlast y hl;exact ⟨y,(iv hi).2 (.inl a),o,(iv hi).2 (.inr rfl),b,c,of_decide_eq_false hr⟩
theorem pM:∀(F:List OpX) (R:Rws) (z:Bool),NumK R->FreshK (aR R) F->F.Pairwise (fun a b=>ar a<=ar b)->(z=true↔¬Falls (aR R))->
  (dK R z F=none/\Gap (aR R++F))\/∃R' z',dK R z F=some (R',z')/\¬Gap (aR R++F)/\NumK R'/\(∀x,x∈aR R'↔x∈aR R++F)/\(z'=true↔¬Falls (aR R++F))/\(aR R').length=(aR R).length+F.length/\∀i,∃t,R' i=R i++t
 | [],R,z,hN,_,_,hz=>.inr ⟨R,z,rfl,by rw [Zi];exact hN.nogap,hN,fun x=>by rw [Zi],by rw [Zi];exact hz,zv,fun i=>⟨[],zv⟩⟩
 | o::t,R,z,hN,hF,hs,hz=>by
  have ho:=hF.ok o uv;obtain ⟨i,hi,hb,hbn⟩:=rp ho;by_cases hn:ar o=((R i).length:Int)+1
  ·have hN1:=hN.up ho hb hn
   have hF1:FreshK (aR (upR R i (R i++ [o]))) t:=by
    refine ⟨fun x hx=>hF.ok x (ul _ hx),fun x hx y hy=> ?_,(uC.1 hF.one).2⟩
    rcases (iv hi).1 hy with hy | rfl
    ·exact hF.off x (ul _ hx) y hy
    exact (uC.1 hF.one).1 x hx
   have hz1:(z &&fT (R i) o)=true↔¬Falls (aR (upR R i (R i++ [o]))):=by
    rw [Hp hN hi hb hn,uB,hz]
    cases fT (R i) o<;>simp
   have hmem:∀x,x∈aR (upR R i (R i++ [o]))++t↔x∈aR R++o::t:=fun x=>by
    simp only [vW,iv hi,vT];constructor
    ·rintro ((h | h) | h)
     ·exact .inl h
     ·exact .inr (.inl h)
     exact .inr (.inr h)
    rintro (h | h | h)
    ·exact .inl (.inl h)
    ·exact .inl (.inr h)
    exact .inr h
   have hg:dK R z (o::t)=dK (upR R i (R i++ [o])) (z &&fT (R i) o) t:=by rw [dK,hbn,if_pos hn]
   have hlen:(aR (upR R i (R i++ [o]))).length=(aR R).length+1:=by
    unfold aR upR
    match i,hi with
    | 0,_=>simp;omega
    | 1,_=>simp;omega
    | 2,_=>simp;omega
    | 3,_=>simp;omega
   rcases pM t _ _ hN1 hF1 (uC.1 hs).2 hz1 with ⟨a,b⟩ | ⟨R',z',a,b,c,d,e,f,g⟩
   ·exact .inl ⟨hg.trans a,b.congr hmem⟩
   refine .inr ⟨R',z',hg.trans a,fun q=>b (q.congr (fun x=>(hmem x).symm)),c,fun x=>(d x).trans (hmem x),e.trans (not_congr ⟨fun q=>q.congr hmem,fun q=>q.congr (fun x=>(hmem x).symm)⟩),by rw [f,hlen,uu];omega,fun k=> ?_⟩;obtain ⟨t',ht'⟩:=g k;unfold upR at ht';split at ht'
   ·rename_i ek;subst ek;exact ⟨o::t',by rw [ht'];simp⟩
   exact ⟨t',ht'⟩
  refine .inl ⟨by rw [dK,hbn,if_neg hn],o,zv,?_,?_⟩
  ·intro h1;have hlt:0<(R i).length:=zo;have e:=vN hlt;obtain ⟨b1,b2,_⟩:=hN i hi 0 _ e;exact hF.off o uv _ (mem_allR.2 ⟨i,hi,vQ e⟩) ⟨zo,zo⟩
  rintro ⟨y,hy,e1,e2⟩
  rcases vW.1 hy with hy | hy
  ·obtain ⟨k,hk,hy⟩:=mem_allR.1 hy;obtain ⟨j,a1,a2,a3,_⟩:=hN.get hk hy;obtain rfl:k=i:=zo;have hj:=(vL.1 a1).1
   have hl:j+1<(R k).length:=by
    rcases uJ (j+1) (R k).length with q | q
    ·exact q
    exact absurd zo hn
   have e:=vN hl;obtain ⟨b1,b2,_⟩:=hN k hk (j+1) _ e;exact hF.off o uv _ (mem_allR.2 ⟨k,hk,vQ e⟩) ⟨zo,by push_cast at b2;omega⟩
  rcases vT.1 hy with rfl | hy
  ·omega
  have:=(uC.1 hs).1 y hy;omega
structure RowsK (R:Rws):Prop where
 num:NumK R
 well:WellK (aR R)
theorem rB:RowsK (fun _=>[]):=⟨Fw,by unfold aR;exact Ez⟩
theorem RowsK.nofall {R:Rws} (h:RowsK R):¬Falls (aR R):=fun ⟨x,hx,y,hy,e1,e2,e3⟩=>e3 (h.well.rise x hx y hy e1 e2)
theorem RowsK.rise {R:Rws} (h:RowsK R) (hi:i<4):(R i).Pairwise (fun a b=>CLt (stO a) (stO b)):=by
 rw [ud];intro a b ha hb hab;have ea:=vN ha;have eb:=vN hb;obtain ⟨a1,a2,_⟩:=h.num i hi a _ ea;obtain ⟨b1,b2,_⟩:=h.num i hi b _ eb;exact h.well.less (mem_allR.2 ⟨i,hi,vQ ea⟩) (b - a - 1) (mem_allR.2 ⟨i,hi,vQ eb⟩) zo zo
structure RowsN (R:Rws):Prop where
 num:NumK R
 up:∀x∈aR R,∀y∈aR R,byO x=byO y->ar x+1=ar y->CLt (stO x) (stO y)
theorem RowsK.toN {R:Rws} (h:RowsK R):RowsN R:=⟨h.num,h.well.rise⟩
theorem RowsN.less {R:Rws} (h:RowsN R) {x:OpX} (hx:x∈aR R):∀(d:Nat) {y:OpX},y∈aR R->byO x=byO y->ar x+(d+1)=ar y->CLt (stO x) (stO y)
 | 0,y,hy,e1,e2=>h.up x hx y hy e1 zo
 | d+1,y,hy,e1,e2=>by
  rcases h.num.gap y hy with q | ⟨z,hz,z1,z2⟩
  ·have:=oh (h.num.ok x hx);omega
  exact eC (h.less hx d hz zo zo) (h.up z hz y hy z1 z2)
theorem RowsN.stamp {R:Rws} (h:RowsN R) (hx:x∈aR R) (hy:y∈aR R) (e:stO x=stO y):x=y:=by
 have e1:byO x=byO y:=(Prod.mk.inj e).2
 rcases Int.lt_trichotomy (ar x) (ar y) with q | q | q
 ·have:=h.less hx (ar y - ar x - 1).toNat hy e1 zo;exact kn2
 ·exact h.num.one x hx y hy e1 q
 have:=h.less hy (ar x - ar y - 1).toNat hx e1.symm zo;exact kn2
theorem RowsN.rise {R:Rws} (h:RowsN R) (hi:i<4):(R i).Pairwise (fun a b=>CLt (stO a) (stO b)):=by
 rw [ud];intro a b ha hb hab;have ea:=vN ha;have eb:=vN hb;obtain ⟨a1,a2,_⟩:=h.num i hi a _ ea;obtain ⟨b1,b2,_⟩:=h.num i hi b _ eb;exact h.less (mem_allR.2 ⟨i,hi,vQ ea⟩) (b - a - 1) (mem_allR.2 ⟨i,hi,vQ eb⟩) zo zo
def aB (S l:List OpX) (a:(Int×Nat)⊕List OpX):Prop:=match bp S 0 [] l with
 | .inl (i,c)=>a= .inl ((i:Int),c)
 | .inr fresh=>(Gap (S++fresh)/\a= .inl (-1,9))\/(¬Gap (S++fresh)/\Falls (S++fresh)/\a= .inl (-1,3))\/(¬Gap (S++fresh)/\¬Falls (S++fresh)/\(∃x∈S++fresh,¬RefOk (S++fresh) x)/\a= .inl (-1,6))\/(WellK (S++fresh)/\400<S.length+fresh.length/\a= .inl (-1,8))\/(WellK (S++fresh)/\S.length+fresh.length<=400/\a= .inr fresh)
end
section
abbrev Ltr:=Int×Nat×Bool
def laid (x:Ltr):List Ltr->List Ltr
 | []=>[x]
 | h::t=>if x.1<h.1 then h::laid x t else x::h::t
def oV (b:Int) (x:Ltr):List Ltr->List Ltr
 | []=>[]
 | h::t=>if h.1=b then h::laid x t else h::oV b x t
def put (b:Int) (x:Ltr) (L:List Ltr):List Ltr:=if b=0 then laid x L else oV b x L
theorem ac {x h:Ltr} (k:x.1<h.1) (t:List Ltr):laid x (h::t)=h::laid x t:=by simp [laid,k]
theorem bC {x h:Ltr} (k:¬x.1<h.1) (t:List Ltr):laid x (h::t)=x::h::t:=by simp [laid,k]
theorem bv {x h:Ltr} (k:h.1=b) (t:List Ltr):oV b x (h::t)=h::laid x t:=by simp [oV,k]
theorem bd {x h:Ltr} (k:h.1≠b) (t:List Ltr):oV b x (h::t)=h::oV b x t:=by simp [oV,k]
theorem iu (x y:Ltr) (h:x.1≠y.1):∀L,laid y (laid x L)=laid x (laid y L)
 | []=>by
  by_cases k:x.1<y.1
  ·rw [show laid x []= [x] from rfl,show laid y []= [y] from rfl,ac k,bC zo];rfl
  rw [show laid x []= [x] from rfl,show laid y []= [y] from rfl,bC k,ac zo];rfl
 | g::t=>by
  by_cases kx:x.1<g.1
  ·by_cases ky:y.1<g.1
   ·rw [ac kx,ac ky,ac ky,ac kx,iu x y h t]
   rw [ac kx,bC ky,bC ky,ac zo,ac kx]
  by_cases ky:y.1<g.1
  ·rw [bC kx,ac ky,ac zo,ac ky,bC kx]
  rw [bC kx,bC ky];by_cases k:x.1<y.1
  ·rw [bC zo,ac k,bC kx]
  rw [ac zo,bC k,bC ky]
theorem ft (x y:Ltr) (b:Int) (h:x.1≠y.1) (hb:b≠x.1):∀L,oV b y (laid x L)=laid x (oV b y L)
 | []=>by
  rw [show laid x []= [x] from rfl,bd (fun e=>hb e.symm)];rfl
 | g::t=>by
  by_cases kx:x.1<g.1
  ·rw [ac kx];by_cases kb:g.1=b
   ·rw [bv kb,bv kb,ac kx,iu x y h t]
   rw [bd kb,bd kb,ac kx,ft x y b h hb t]
  rw [bC kx,bd (fun e=>hb e.symm)];by_cases kb:g.1=b
  ·rw [bv kb,bC kx]
  rw [bd kb,bC kx]
theorem rs (x y:Ltr) (a b:Int) (h:x.1≠y.1) (ha:a≠y.1) (hb:b≠x.1):∀L,oV b y (oV a x L)=oV a x (oV b y L)
 | []=>rfl
 | g::t=>by
  by_cases ka:g.1=a
  ·rw [bv ka];by_cases kb:g.1=b
   ·rw [bv kb,bv kb,bv ka,iu x y h t]
   rw [bd kb,bd kb,bv ka,ft x y b h hb t]
  rw [bd ka];by_cases kb:g.1=b
  ·rw [bv kb,bv kb,bd ka,ft y x a (fun e=>h e.symm) ha t]
  rw [bd kb,bd kb,bd ka,rs x y a b h ha hb t]
theorem GN (x y:Ltr) (a b:Int) (h:x.1≠y.1) (ha:a≠y.1) (hb:b≠x.1) (L:List Ltr):put b y (put a x L)=put a x (put b y L):=by
 unfold put;by_cases h0:a=0
 ·rw [if_pos h0,if_pos h0];by_cases h1:b=0
  ·rw [if_pos h1,if_pos h1,iu x y h]
  rw [if_neg h1,if_neg h1,ft x y b h hb]
 rw [if_neg h0,if_neg h0];by_cases h1:b=0
 ·rw [if_pos h1,if_pos h1,ft y x a (fun e=>h e.symm) ha]
 rw [if_neg h1,if_neg h1,rs x y a b h ha hb]
def cG (s:List (Int×Ltr)) (L:List Ltr):List Ltr:=s.foldl (fun L m=>put m.1 m.2 L) L
theorem dA (s r:List (Int×Ltr)) (L:List Ltr):cG (s++r) L=cG r (cG s L):=by simp [cG]
theorem gU (m:Int×Ltr) (L:List Ltr):cG [m] L=put m.1 m.2 L:=rfl
theorem lM (m:Int×Ltr):∀(r:List (Int×Ltr)) (L:List Ltr),(∀y∈r,m.2.1≠y.2.1/\m.1≠y.2.1/\y.1≠m.2.1)->cG r (put m.1 m.2 L)=put m.1 m.2 (cG r L)
 | [],_,_=>rfl
 | y::r,L,h=>by
  obtain ⟨h1,h2,h3⟩:=h y zv
  show cG r (put y.1 y.2 (put m.1 m.2 L))=put m.1 m.2 (cG r (put y.1 y.2 L))
  rw [GN m.2 y.2 m.1 y.1 h1 h2 h3];exact lM m r _ (fun z hz=>h z (by simp [hz]))
def oN (s:List (Int×Ltr)):Prop:=(s.map (·.2.1)).Nodup/\(∀m∈s,m.2.1≠0)/\∀u m v,s=u++m::v->m.1=0\/∃y∈u,y.2.1=m.1
theorem ml {s:List (Int×Ltr)} {m:Int×Ltr} (h:oN (s++ [m])):oN s:=by
 obtain ⟨h1,h2,h3⟩:=h;rw [uI] at h1;refine ⟨(Ze.1 h1).1,fun x hx=>h2 x (by simp [hx]),fun u x v e=>h3 u x (v++ [m]) (by rw [e];simp)⟩
theorem As {s:List (Int×Ltr)} {m:Int×Ltr} (h:oN (s++ [m])):∀y∈s,y.2.1≠m.2.1/\y.1≠m.2.1:=by
 obtain ⟨h1,h2,h3⟩:=h;rw [uI] at h1
 have hd:∀y∈s,y.2.1≠m.2.1:=fun y hy e=>(Ze.1 h1).2.2 _ (ut.2 ⟨y,hy,rfl⟩) _ zv e
 intro y hy;refine ⟨hd y hy,fun e=> ?_⟩;obtain ⟨u,v,rfl⟩:=List.append_of_mem hy
 rcases h3 u y (v++ [m]) zv with h0 | ⟨z,hz,he⟩
 ·exact h2 m zv (by rw [<-e,h0])
 exact hd z (by simp [hz]) (by rw [he,e])
theorem BN {u v:List (Int×Ltr)} {m:Int×Ltr} (h:oN (u++m::v)) (hm:∀y∈v,y.1≠m.2.1):oN (u++v):=by
 obtain ⟨h1,h2,h3⟩:=h;have hsub:(u++v).Sublist (u++m::v):=List.Sublist.append_left (List.sublist_cons_self _ _) u;refine ⟨h1.sublist (hsub.map _),fun x hx=>h2 x (hsub.subset hx),fun a x b e=> ?_⟩
 rcases List.append_eq_append_iff.1 e with ⟨c,rfl,hc⟩ | ⟨c,rfl,hc⟩
 ·rcases h3 (u++m::c) x b (by rw [hc];simp) with h0 | ⟨z,hz,he⟩
  ·exact .inl h0
  right
  rcases vW.1 hz with hz | hz
  ·exact ⟨z,by simp [hz],he⟩
  rcases vT.1 hz with rfl | hz
  ·exact absurd he.symm (hm x (by rw [hc];simp))
  exact ⟨z,by simp [hz],he⟩
 cases c with
 | nil=>
  simp only [Zi,Zb] at hc h3 |-
  rcases h3 (a++ [m]) x b (by rw [<-hc];simp) with h0 | ⟨z,hz,he⟩
  ·exact .inl h0
  right
  rcases vW.1 hz with hz | hz
  ·exact ⟨z,hz,he⟩
  rw [uq] at hz;subst hz;exact absurd he.symm (hm x (by rw [<-hc];simp))
 | cons y c=>
  injection hc with e1 e2;subst e1;exact h3 a x (c++m::v) zv
theorem gW {α:Type} :∀(l:List α),l= []\/∃s m,l=s++ [m]
 | []=>.inl rfl
 | x::t=>by
  rcases gW t with rfl | ⟨s,m,rfl⟩
  ·exact .inr ⟨[],x,rfl⟩
  exact .inr ⟨x::s,m,rfl⟩
theorem iO:∀(n:Nat) (s r:List (Int×Ltr)),s.length=n->s.Perm r->oN s->oN r->cG s []=cG r []
 | 0,s,r,hn,hp,_,_=>by
  obtain rfl:=uh.1 hn;rw [hp.symm.eq_nil]
 | n+1,s,r,hn,hp,hs,hr=>by
  rcases gW s with rfl | ⟨s',m,rfl⟩
  ·simp at hn
  obtain ⟨u,v,rfl⟩:=List.append_of_mem (hp.mem_iff.1 (show m∈s'++ [m] by simp));have hl:=As hs
  have hp':s'.Perm (u++v):=by
   have h1:(m::s').Perm (m::(u++v)):=((List.perm_append_singleton m s').symm.trans hp).trans List.perm_middle;exact h1.cons_inv
  have hv:∀y∈v,y.2.1≠m.2.1/\y.1≠m.2.1:=fun y hy=>hl y (hp'.mem_iff.2 jo)
  have hmv:∀y∈v,m.1≠y.2.1:=by
   intro y hy e;obtain ⟨h1,h2,h3⟩:=hr
   rcases h3 u m v rfl with h0 | ⟨z,hz,he⟩
   ·exact h2 y jo (by rw [<-e,h0])
   rw [uI,uG] at h1;exact (Ze.1 h1).2.2 _ (ut.2 ⟨z,hz,rfl⟩) _ (ul _ (ut.2 ⟨y,hy,rfl⟩)) (by rw [he,e])
  have hr':=BN hr (fun y hy=>(hv y hy).2);have ih:=iO n s' (u++v) xe hp' (ml hs) hr';rw [dA,gU,ih,show u++m::v=u++([m]++v) by simp,dA,dA,dA,gU];exact (lM m v _ (fun y hy=>⟨fun e=>(hv y hy).1 e.symm,hmv y hy,(hv y hy).2⟩)).symm
end
section
def ce (x:Int):List Ltr->Nat
 | []=>0
 | h::t=>if x<h.1 then ce x t+1 else 0
def cZ (b:Int):List Ltr->Option Nat
 | []=>none
 | h::t=>if h.1=b then some 0 else (cZ b t).map (· +1)
theorem kj (x:Int):∀L,ce x L<=L.length
 | []=>vM _
 | h::t=>by
  unfold ce;split
  ·have:=kj x t;simp;omega
  omega
theorem lZ {x:Int} :∀ {L:List Ltr} {n:Nat},n<=L.length->(∀i l,i<n->L[i]? =some l->x<l.1)->(∀l,L[n]? =some l->¬x<l.1)->ce x L=n
 | [],n,hn,_,_=>by simp at hn;simp [ce,hn]
 | g::t,0,_,_,h2=>by
  unfold ce;rw [if_neg (h2 g rfl)]
 | g::t,n+1,hn,h1,h2=>by
  unfold ce;rw [if_pos (h1 0 g zo rfl),lZ (n:=n) xe (fun i l hi e=>h1 (i+1) l zo yD) (fun l e=>h2 l yD)]
theorem tD (x:Ltr):∀L,laid x L=L.take (ce x.1 L)++x::L.drop (ce x.1 L)
 | []=>rfl
 | h::t=>by
  unfold ce;by_cases k:x.1<h.1
  ·rw [ac k,if_pos k,tD x t];rfl
  rw [bC k,if_neg k];rfl
theorem cF {b:Int} :∀ {L:List Ltr} {i:Nat},cZ b L=some i->∃l,L[i]? =some l/\l.1=b
 | [],i,h=>by simp [cZ] at h
 | g::t,i,h=>by
  unfold cZ at h;split at h
  ·cases h;exact ⟨g,rfl,jp⟩
  cases hf:cZ b t with
  | none=>rw [hf] at h;cases h
  | some j=>
   rw [hf] at h
   cases h
   obtain ⟨l,h1,h2⟩:=cF hf;exact ⟨l,xu,h2⟩
theorem fd {b:Int} :∀ {L:List Ltr},cZ b L=none->∀l∈L,l.1≠b
 | [],_,l,hl=>jL
 | g::t,h,l,hl=>by
  unfold cZ at h;split at h
  ·cases h
  have hf:cZ b t=none:=qz
  rcases vT.1 hl with rfl | hl
  ·assumption
  exact fd hf l hl
theorem eQ {L:List Ltr} (h:b∈L.map (·.1)):∃i,cZ b L=some i:=by
 cases hf:cZ b L with
 | some i=>exact ⟨i,rfl⟩
 | none=>
  obtain ⟨l,hl,e⟩:=ut.1 h;exact absurd e (fd hf l hl)
theorem AP {b:Int} :∀ {L:List Ltr} {i:Nat} {l:Ltr},L[i]? =some l->l.1=b->(∀j g,j<i->L[j]? =some g->g.1≠b)->cZ b L=some i
 | [],i,l,e,_,_=>qt
 | g::t,0,l,e,h,_=>by
  cases e
  unfold cZ;rw [if_pos h]
 | g::t,i+1,l,e,h,hn=>by
  unfold cZ;rw [if_neg (hn 0 g zo rfl),AP (L:=t) (i:=i) yD h (fun j g' hj e'=>hn (j+1) g' zo (by simpa using e'))];rfl
theorem DT (b:Int) (x:Ltr):∀(L:List Ltr) (i:Nat),cZ b L=some i->oV b x L=L.take (i+1+ce x.1 (L.drop (i+1)))++x::L.drop (i+1+ce x.1 (L.drop (i+1)))
 | [],i,h=>by simp [cZ] at h
 | g::t,i,h=>by
  unfold cZ at h;by_cases k:g.1=b
  ·rw [if_pos k] at h
   cases h
   have e:0+1+ce x.1 ((g::t).drop (0+1))=ce x.1 t+1:=by show 0+1+ce x.1 t=_;omega
   rw [bv k,tD x t,e];rfl
  rw [if_neg k] at h
  cases hf:cZ b t with
  | none=>rw [hf] at h;cases h
  | some j=>
   rw [hf] at h
   cases h
   have e:j+1+1+ce x.1 ((g::t).drop (j+1+1))=j+1+ce x.1 (t.drop (j+1))+1:=by show j+1+1+ce x.1 (t.drop (j+1))=_;omega
   rw [bd k,DT b x t j hf,e];rfl
def ef (b id:Int) (L:List Ltr):Nat:=if b=0 then ce id L else match cZ b L with
 | none=>0
 | some i=>i+1+ce id (L.drop (i+1))
theorem wE {x:Ltr} {L:List Ltr} (h:b=0\/b∈L.map (·.1)):ef b x.1 L<=L.length/\put b x L=L.take (ef b x.1 L)++x::L.drop (ef b x.1 L):=by
 unfold put ef;by_cases h0:b=0
 ·rw [if_pos h0,if_pos h0];exact ⟨kj _ _,tD x L⟩
 rw [if_neg h0,if_neg h0];obtain ⟨i,hi⟩:=eQ (h.resolve_left h0);rw [hi];obtain ⟨l,hl,_⟩:=cF hi;have h1:=(vL.1 hl).1;have h2:=kj x.1 (L.drop (i+1));rw [uy] at h2;exact ⟨yc,DT b x L i hi⟩
theorem kw {x:Ltr} {L:List Ltr} (h:b=0\/b∈L.map (·.1)):(put b x L).Perm (x::L):=by
 rw [(wE h).2];refine List.perm_middle.trans ?_;rw [ur]
theorem Im {x:Ltr} {L:List Ltr} (h:b=0\/b∈L.map (·.1)):(put b x L).length=L.length+1:=by rw [(kw h).length_eq];rfl
theorem EU {x:Ltr} {L:List Ltr} (h:b=0\/b∈L.map (·.1)):((put b x L).map (·.1)).Perm (x.1::L.map (·.1)):=(kw h).map _
def gone (id:Int) (L:List Ltr):List Ltr:=L.map fun l=>if l.1=id then (l.1,l.2.1,true) else l
def aK (L:List Ltr):List Ltr:=L.filter fun l=> !l.2.2
