import Derived.Test.YtfkekfibjnjcnaaGreatDoorMZ01
import Derived.Test.YtfkekfibjnjcnaaGreatDoorMZ02
import Derived.Lib.AppendIntMem
set_option linter.unusedSimpArgs false
set_option linter.unusedVariables false
namespace Go.Proofs.YtfkekfibjnjcnaaGreatDoor
open Go.Proofs.Tryz
variable {name value:ByteArray} {b id m nd t:Int} {L:List Ltr} {x:Ltr} {f:Ltr→Ltr} {g i kd n o:Nat} {v:Value} {w w':World}
section
open Go.RowKit Go.Lib Go.Sort
abbrev OpX:=Int×Int×Int×Nat×Int×Int×ByteArray×ByteArray
def encX (x:OpX):List Value:=[.int .i64 x.1,.int .i64 x.2.1,.int .i64 x.2.2.1,.int .u8 (x.2.2.2.1:Int),.int .i64 x.2.2.2.2.1,.int .i64 x.2.2.2.2.2.1,.string x.2.2.2.2.2.2.1,.string x.2.2.2.2.2.2.2]
theorem encX_one (x:OpX):∀v∈encX x,v.oneCell'=true:=by
 intro v hv
 simp [encX] at hv
 rcases hv with rfl | rfl | rfl | rfl | rfl | rfl | rfl | rfl<;>rfl
theorem cellKept {b:Nat} (hb:Below w.heap.size w w') (h:w.cell? ⟨b,o,none⟩=some v):w'.cell? ⟨b,o,none⟩=some v:=by
 rw [hb.cell (p:=⟨b,o,none⟩) (vp w ⟨b,o,none⟩ h)];exact h
def cellsOf (xs:List OpX):List Value:=xs.flatMap encX
theorem cellsOf_cons (x:OpX) (xs:List OpX):cellsOf (x::xs)=encX x++cellsOf xs:=rfl
theorem encX_len (x:OpX):(encX x).length=8:=rfl
theorem cellsOf_len:∀xs:List OpX,(cellsOf xs).length=xs.length*8
 | []=>rfl
 | x::xs=>by rw [cellsOf_cons,vw,cellsOf_len xs,encX_len,vH];omega
theorem cellsOf_one (xs:List OpX):∀u∈cellsOf xs,u.oneCell'=true:=by
 intro u hu
 obtain ⟨x,_,hx⟩:=List.mem_flatMap.1 hu
 exact encX_one x u hx
theorem cellsOf_get:∀(xs:List OpX) (i c:Nat),i<xs.length->c<8->(cellsOf xs)[i*8+c]? =some ((encX xs[i]!)[c]!)
 | [],i,_,hi,_=>absurd hi zm
 | x::xs,0,c,_,hc=>by
  have e:0*8+c=c:=zj
  rw [cellsOf_cons,e,Zd xT,vj xT]
  rw [getElem!_pos _ c xT]
  rfl
 | x::xs,i+1,c,hi,hc=>by
  rw [cellsOf_cons,List.getElem?_append_right (by rw [encX_len];omega),encX_len,show (i+1)*8+c - 8=i*8+c by omega,cellsOf_get xs i c xg hc]
  simp
theorem cellsOf_app (a b:List OpX):cellsOf (a++b)=cellsOf a++cellsOf b:=List.flatMap_append
def OpsAt (w:World) (v:Value) (xs:List OpX):Prop:=
 (v= .slice none 0 0/\xs= [])\/∃blk off cap,v= .slice (some ⟨blk,off,none⟩) xs.length cap/\∀j u,(cellsOf xs)[j]? =some u->w.cell? ⟨blk,off+j,none⟩=some u
theorem OpsAt.later {xs:List OpX} (h:OpsAt w v xs) (hb:Below w.heap.size w w'):OpsAt w' v xs:=by
 rcases h with h | ⟨g,o,c,h1,h2⟩
 ·exact .inl h
 exact .inr ⟨g,o,c,h1,fun j u hj=>cellKept hb (h2 j u hj)⟩
theorem infoOp:(prog.info? 41).map (fun i=>(i.zero,i.size,i.bytes))=some (some (.agg #[.int .i64 0,.int .i64 0,.int .i64 0,.int .u8 0,.int .i64 0,.int .i64 0,.string ⟨#[]⟩,.string ⟨#[]⟩]),8,80):=zk
theorem field_at {b off:Nat} {xs:List OpX} (hc:∀j u,(cellsOf xs)[j]? =some u->w.cell? ⟨b,off+j,none⟩=some u) (i c:Nat) (hi:i<xs.length) (h8:c<8):w.cell? ⟨b,off+i*8+c,none⟩=some ((encX xs[i]!)[c]!):=by
 rw [uY];exact hc _ _ (cellsOf_get xs i c hi h8)
theorem ownsOps {base:Nat} {xs:List OpX} (h:w.ownsRow base 41 8 v xs.length (cellsOf xs)):OpsAt w v xs:=by
 rcases h.2 with ⟨h1,h2⟩ | ⟨g,cap,cur,rfl,_⟩
 ·exact .inl ⟨h1,vM.1 h2⟩
 refine .inr ⟨g,0,cap,rfl,fun j u hj=> ?_⟩
 have hl:j<(cellsOf xs).length:=(vi.1 hj).1
 rw [cellsOf_len] at hl
 rw [vO,h.cellAt j hl,hj]
structure Eight (w:World) (g p:Nat) (t b m:Int) (kd:Nat) (node other:Int) (name value:ByteArray):Prop where
 c0:w.cell? ⟨g,p,none⟩=some (.int .i64 t)
 c1:w.cell? ⟨g,p+1,none⟩=some (.int .i64 b)
 c2:w.cell? ⟨g,p+2,none⟩=some (.int .i64 m)
 c3:w.cell? ⟨g,p+3,none⟩=some (.int .u8 (kd:Int))
 c4:w.cell? ⟨g,p+4,none⟩=some (.int .i64 node)
 c5:w.cell? ⟨g,p+5,none⟩=some (.int .i64 other)
 c6:w.cell? ⟨g,p+6,none⟩=some (.string name)
 c7:w.cell? ⟨g,p+7,none⟩=some (.string value)
theorem Eight.later {p:Nat} {node other:Int} (h:Eight w g p t b m kd node other name value) (hb:Below w.heap.size w w'):Eight w' g p t b m kd node other name value:=
 ⟨cellKept hb h.c0,cellKept hb h.c1,cellKept hb h.c2,cellKept hb h.c3,cellKept hb h.c4,cellKept hb h.c5,cellKept hb h.c6,cellKept hb h.c7⟩
theorem eight_at {xs:List OpX} (hc:∀j u,(cellsOf xs)[j]? =some u->w.cell? ⟨g,o+j,none⟩=some u) (i:Nat) (hi:i<xs.length) {node other:Int} (hx:xs[i]! =(t,b,m,kd,node,other,name,value)):Eight w g (o+i*8) t b m kd node other name value:=by
 have h:=fun c h8=>field_at hc i c hi h8
 rw [hx] at h
 exact ⟨h 0 zj,h 1 zj,h 2 zj,h 3 zj,h 4 zj,h 5 zj,h 6 zj,h 7 zj⟩
end
section
open Go.RowKit Go.Lib Go.Sort
def OpsIn (w:World) (ao:Option Addr) (xs:List OpX):Prop:=xs= []\/∃blk off,ao=some ⟨blk,off,none⟩/\∀j u,(cellsOf xs)[j]? =some u->w.cell? ⟨blk,off+j,none⟩=some u
theorem OpsIn.later {ao:Option Addr} {xs:List OpX} (h:OpsIn w ao xs) (hb:Below w.heap.size w w'):OpsIn w' ao xs:=by
 rcases h with h | ⟨g,o,h1,h2⟩
 ·exact .inl h
 exact .inr ⟨g,o,h1,fun j u hj=>cellKept hb (h2 j u hj)⟩
end
section
def errO (x:OpX):Nat:=opE x.1 x.2.1 x.2.2.1 x.2.2.2.1 x.2.2.2.2.1 x.2.2.2.2.2.1 x.2.2.2.2.2.2.1.data.toList x.2.2.2.2.2.2.2.data.toList
def keyO (x:OpX):CKey:=(x.2.2.2.2.1,x.2.2.2.2.2.2.1)
def cellO (x:OpX):CMark:=(x.2.2.2.2.2.2.2,(x.1,x.2.1))
def markO (x:OpX):Option (CKey×CMark):=if errO x=0/\x.2.2.2.1=115 then some (keyO x,cellO x) else none
def marksO (xs:List OpX):List (CKey×CMark):=xs.filterMap markO
theorem marksO_app (xs ys:List OpX):marksO (xs++ys)=marksO xs++marksO ys:=List.filterMap_append
def madeO (xs:List OpX):CSta:=foldC (marksO xs) noC
def stepO (f:CSta) (x:OpX):CSta:=if errO x=0/\x.2.2.2.1=115 then setC f (keyO x,cellO x) else f
theorem madeO_snoc (xs:List OpX) (x:OpX):madeO (xs++ [x])=stepO (madeO xs) x:=by
 unfold madeO stepO
 rw [marksO_app]
 by_cases h:errO x=0/\x.2.2.2.1=115
 ·have e:marksO [x]= [(keyO x,cellO x)]:=by simp [marksO,markO,h]
  rw [e,foldC_snoc,if_pos h]
 have e:marksO [x]= []:=by simp [marksO,markO,h]
 rw [e,ur,if_neg h]
def OneO (xs:List OpX):Prop:=∀x∈xs,∀y∈xs,x.1=y.1->x.2.1=y.2.1->x=y
theorem markO_some {x:OpX} {m:CKey×CMark} (h:markO x=some m):m=(keyO x,cellO x):=by
 unfold markO at h
 split at h
 ·exact (Option.some.inj h).symm
 cases h
theorem OneO.marks {xs:List OpX} (h:OneO xs):OneC (marksO xs):=by
 intro k c d hc hd e
 obtain ⟨x,hx,ex⟩:=Zi.1 hc
 obtain ⟨y,hy,ey⟩:=Zi.1 hd
 have e1:=markO_some ex
 have e2:=markO_some ey
 have c1:c=cellO x:=(Prod.mk.inj e1).2
 have d1:d=cellO y:=(Prod.mk.inj e2).2
 subst c1
 subst d1
 have e3:(x.1,x.2.1)=(y.1,y.2.1):=e
 rw [h x hx y hy (Prod.mk.inj e3).1 (Prod.mk.inj e3).2]
end
section
abbrev byO (x:OpX):Int:=x.2.1
abbrev numO (x:OpX):Int:=x.2.2.1
abbrev kdO (x:OpX):Nat:=x.2.2.2.1
abbrev nodeO (x:OpX):Int:=x.2.2.2.2.1
abbrev otherO (x:OpX):Int:=x.2.2.2.2.2.1
def idO (x:OpX):Int:=x.1*4+x.2.1
def stO (x:OpX):Int×Int:=(x.1,x.2.1)
def KnownN (S:List OpX) (nd:Int):Prop:=∃x∈S,kdO x=109/\nodeO x=nd/\idO x=nd
def LetterN (S:List OpX) (nd id:Int):Prop:=∃x∈S,kdO x=105/\nodeO x=nd/\idO x=id
def RefOk (S:List OpX) (x:OpX):Prop:=((kdO x=109/\idO x=nodeO x)\/KnownN S (nodeO x))/\(kdO x=109->otherO x=0\/otherO x=1\/KnownN S (otherO x))/\((kdO x=105/\0<otherO x)\/kdO x=100->LetterN S (nodeO x) (otherO x))
theorem KnownN.mono {S T:List OpX} (h:∀x,x∈S->x∈T) (k:KnownN S nd):KnownN T nd:=by
 obtain ⟨x,hx,k⟩:=k
 exact ⟨x,h x hx,k⟩
theorem LetterN.mono {S T:List OpX} (h:∀x,x∈S->x∈T) (k:LetterN S nd id):LetterN T nd id:=by
 obtain ⟨x,hx,k⟩:=k
 exact ⟨x,h x hx,k⟩
theorem RefOk.mono {S T:List OpX} (h:∀x,x∈S->x∈T) {x:OpX} (k:RefOk S x):RefOk T x:=
 ⟨k.1.imp (fun e=>e) (KnownN.mono h),fun e=>(k.2.1 e).imp (fun e=>e) (fun e=>e.imp (fun e=>e) (KnownN.mono h)),fun e=>(k.2.2 e).mono h⟩
structure WellK (S:List OpX):Prop where
 ok:∀x∈S,errO x=0
 one:∀x∈S,∀y∈S,byO x=byO y->numO x=numO y->x=y
 gap:∀x∈S,numO x=1\/∃y∈S,byO y=byO x/\numO y+1=numO x
 rise:∀x∈S,∀y∈S,byO x=byO y->numO x+1=numO y->CLt (stO x) (stO y)
 refs:∀x∈S,RefOk S x
theorem wellK_nil:WellK []:=⟨fun x h=>qp,fun x h=>qp,fun x h=>qp,fun x h=>qp,fun x h=>qp⟩
theorem WellK.congr {S T:List OpX} (h:WellK S) (e:∀x,x∈S↔x∈T):WellK T:=
 ⟨fun x hx=>h.ok x ((e x).2 hx),fun x hx y hy=>h.one x ((e x).2 hx) y ((e y).2 hy),fun x hx=>(h.gap x ((e x).2 hx)).imp (fun q=>q) (fun ⟨y,hy,q⟩=>⟨y,(e y).1 hy,q⟩),fun x hx y hy=>h.rise x ((e x).2 hx) y ((e y).2 hy),fun x hx=>(h.refs x ((e x).2 hx)).mono (fun y hy=>(e y).1 hy)⟩
def Compat (S T:List OpX):Prop:=∀x∈S,∀y∈T,byO x=byO y->numO x=numO y->x=y
theorem Compat.symm {S T:List OpX} (h:Compat S T):Compat T S:=fun x hx y hy e1 e2=>(h y hy x hx e1.symm e2.symm).symm
theorem num_pos {x:OpX} (h:errO x=0):1<=numO x:=(opE_zero h).2.2.2.2.1
theorem WellK.union {S T:List OpX} (hS:WellK S) (hT:WellK T) (hc:Compat S T):WellK (S++T):=by
 have across:∀ {A B:List OpX},WellK A->WellK B->Compat A B->∀x∈A,∀y∈B,byO x=byO y->numO x+1=numO y->CLt (stO x) (stO y):=fun {A B} hA hB hAB x hx y hy e1 e2=>by
  rcases hB.gap y hy with q | ⟨z,hz,z1,z2⟩
  ·have:=num_pos (hA.ok x hx)
   omega
  obtain rfl:=hAB x hx z hz zj zj
  exact hB.rise x hz y hy e1 e2
 refine ⟨fun x hx=> ?_,fun x hx y hy e1 e2=> ?_,fun x hx=> ?_,fun x hx y hy e1 e2=> ?_,fun x hx=> ?_⟩
 ·rcases vv.1 hx with h | h
  ·exact hS.ok x h
  exact hT.ok x h
 ·rcases vv.1 hx with h | h<;>rcases vv.1 hy with k | k
  ·exact hS.one x h y k e1 e2
  ·exact hc x h y k e1 e2
  ·exact hc.symm x h y k e1 e2
  exact hT.one x h y k e1 e2
 ·rcases vv.1 hx with h | h
  ·exact (hS.gap x h).imp (fun q=>q) (fun ⟨y,hy,q⟩=>⟨y,vN _ hy,q⟩)
  exact (hT.gap x h).imp (fun q=>q) (fun ⟨y,hy,q⟩=>⟨y,ub _ hy,q⟩)
 ·rcases vv.1 hx with h | h<;>rcases vv.1 hy with k | k
  ·exact hS.rise x h y k e1 e2
  ·exact across hS hT hc x h y k e1 e2
  ·exact across hT hS hc.symm x h y k e1 e2
  exact hT.rise x h y k e1 e2
 rcases vv.1 hx with h | h
 ·exact (hS.refs x h).mono (fun y hy=>vN _ hy)
 exact (hT.refs x h).mono (fun y hy=>ub _ hy)
theorem WellK.down {S:List OpX} (h:WellK S) {x:OpX} (hx:x∈S):∀(d:Nat) (m:Int),1<=m->m+d=numO x->∃y∈S,byO y=byO x/\numO y=m
 | 0,m,_,e=>⟨x,hx,rfl,zj⟩
 | d+1,m,h1,e=>by
  obtain ⟨y,hy,b1,b2⟩:=h.down hx d (m+1) zj zj
  rcases h.gap y hy with q | ⟨z,hz,z1,z2⟩
  ·omega
  exact ⟨z,hz,zj,zj⟩
theorem WellK.less {S:List OpX} (h:WellK S) {x:OpX} (hx:x∈S):∀(d:Nat) {y:OpX},y∈S->byO x=byO y->numO x+(d+1)=numO y->CLt (stO x) (stO y)
 | 0,y,hy,e1,e2=>h.rise x hx y hy e1 zj
 | d+1,y,hy,e1,e2=>by
  rcases h.gap y hy with q | ⟨z,hz,z1,z2⟩
  ·have:=num_pos (h.ok x hx)
   omega
  exact clt_trans (h.less hx d hz zj zj) (h.rise z hz y hy z1 z2)
theorem WellK.stamp {S:List OpX} (h:WellK S) {x y:OpX} (hx:x∈S) (hy:y∈S) (e:stO x=stO y):x=y:=by
 have e1:byO x=byO y:=(Prod.mk.inj e).2
 rcases Int.lt_trichotomy (numO x) (numO y) with q | q | q
 ·have:=h.less hx (numO y - numO x - 1).toNat hy e1 zj
  rw [e] at this
  exact absurd this clt_irrefl
 ·exact h.one x hx y hy e1 q
 have:=h.less hy (numO x - numO y - 1).toNat hx e1.symm zj
 rw [e] at this
 exact absurd this clt_irrefl
theorem WellK.add {S:List OpX} (h:WellK S) {x:OpX} (hok:errO x=0) (hn:numO x=1\/∃y∈S,byO y=byO x/\numO y+1=numO x) (hnew:∀y∈S,byO y=byO x->numO y<numO x) (hst:∀y∈S,CLt (stO y) (stO x)) (hr:RefOk (x::S) x):WellK (x::S):=by
 have sub:∀y,y∈S->y∈x::S:=fun y hy=>vF _ hy
 refine ⟨fun y hy=> ?_,fun y hy z hz e1 e2=> ?_,fun y hy=> ?_,fun y hy z hz e1 e2=> ?_,fun y hy=> ?_⟩
 ·rcases vz.1 hy with rfl | hy
  ·exact hok
  exact h.ok y hy
 ·rcases vz.1 hy with e | ky<;>rcases vz.1 hz with e' | kz
  ·rw [e,e']
  ·rw [e] at e1 e2
   have:=hnew z kz e1.symm
   omega
  ·rw [e'] at e1 e2
   have:=hnew y ky e1
   omega
  exact h.one y ky z kz e1 e2
 ·rcases vz.1 hy with e | hy
  ·subst e
   exact hn.imp (fun q=>q) (fun ⟨z,hz,q⟩=>⟨z,sub z hz,q⟩)
  exact (h.gap y hy).imp (fun q=>q) (fun ⟨z,hz,q⟩=>⟨z,sub z hz,q⟩)
 ·rcases vz.1 hy with e | ky<;>rcases vz.1 hz with e' | kz
  ·rw [e,e'] at e2
   omega
  ·rw [e] at e1 e2
   have:=hnew z kz e1.symm
   omega
  ·rw [e']
   exact hst y ky
  exact h.rise y ky z kz e1 e2
 rcases vz.1 hy with e | hy
 ·rw [e];exact hr
 exact (h.refs y hy).mono sub
structure FolkK (n:Nat) (K:Nat->List OpX):Prop where
 well:∀r,r<n->WellK (K r)
 compat:∀r,r<n->∀s,s<n->Compat (K r) (K s)
 own:∀r,r<n->∀s,s<n->∀x∈K r,byO x=(s:Int)->x∈K s
theorem FolkK.join {K:Nat->List OpX} (h:FolkK n K) {a b:Nat} (ha:a<n) (hb:b<n) {J:List OpX} (hJ:∀x,x∈J↔x∈K a\/x∈K b):FolkK n (fun r=>if r=a then J else K r):=by
 have hw:WellK J:=((h.well a ha).union (h.well b hb) (h.compat a ha b hb)).congr (fun x=>by rw [hJ,vv])
 have hin:∀r,r<n->∀x∈(if r=a then J else K r),∃q,q<n/\x∈K q:=fun r hr x hx=>by
  split at hx
  ·rcases (hJ x).1 hx with e | e
   ·exact ⟨a,ha,e⟩
   exact ⟨b,hb,e⟩
  exact ⟨r,hr,hx⟩
 refine ⟨fun r hr=> ?_,fun r hr s hs x hx y hy e1 e2=> ?_,fun r hr s hs x hx e=> ?_⟩
 ·split
  ·exact hw
  exact h.well r hr
 ·obtain ⟨q,hq,hx⟩:=hin r hr x hx
  obtain ⟨q',hq',hy⟩:=hin s hs y hy
  exact h.compat q hq q' hq' x hx y hy e1 e2
 obtain ⟨q,hq,hx⟩:=hin r hr x hx
 have:=h.own q hq s hs x hx e
 split
 ·rename_i es
  subst es
  exact (hJ x).2 (.inl this)
 exact this
end
section
def lookK (S:List OpX) (b n:Int):Option OpX:=S.find? (fun x=>decide (byO x=b/\numO x=n))
theorem lookK_some {S:List OpX} {n:Int} {x:OpX} (h:lookK S b n=some x):x∈S/\byO x=b/\numO x=n:=by
 unfold lookK at h
 exact ⟨List.mem_of_find?_eq_some h,by simpa using List.find?_some h⟩
theorem lookK_none {S:List OpX} {n:Int} :lookK S b n=none↔∀x∈S,¬(byO x=b/\numO x=n):=by
 unfold lookK
 rw [List.find?_eq_none]
 simp
theorem lookK_app (S T:List OpX) (b n:Int):lookK (S++T) b n=(lookK S b n).or (lookK T b n):=by
 unfold lookK
 rw [List.find?_append]
theorem lookK_is {S:List OpX} (h1:∀x∈S,∀y∈S,byO x=byO y->numO x=numO y->x=y) {x:OpX} (hx:x∈S):lookK S (byO x) (numO x)=some x:=by
 cases h:lookK S (byO x) (numO x) with
 | none=>exact absurd ⟨rfl,rfl⟩ (lookK_none.1 h x hx)
 | some y=>
  obtain ⟨a,b,c⟩:=lookK_some h
  rw [h1 x hx y a b.symm c.symm]
def sameX (x y:OpX):Bool:=decide (x.1=y.1/\x.2.1=y.2.1/\x.2.2.1=y.2.2.1/\x.2.2.2.1=y.2.2.2.1/\x.2.2.2.2.1=y.2.2.2.2.1/\x.2.2.2.2.2.1=y.2.2.2.2.2.1/\x.2.2.2.2.2.2.1.data.toList=y.2.2.2.2.2.2.1.data.toList/\x.2.2.2.2.2.2.2.data.toList=y.2.2.2.2.2.2.2.data.toList)
theorem bytes_eq {a b:ByteArray} (h:a.data.toList=b.data.toList):a=b:=by
 cases a;cases b
 simpa [Array.toList_inj] using h
theorem sameX_iff {x y:OpX} :sameX x y=true↔x=y:=by
 unfold sameX
 rw [decide_eq_true_iff]
 constructor
 ·intro h
  obtain ⟨a,b,c,d,e,f,g,i⟩:=x
  obtain ⟨a',b',c',d',e',f',g',i'⟩:=y
  obtain ⟨h1,h2,h3,h4,h5,h6,h7,h8⟩:=h
  simp only at h1 h2 h3 h4 h5 h6 h7 h8
  rw [h1,h2,h3,h4,h5,h6,bytes_eq h7,bytes_eq h8]
 intro h
 rw [h]
 exact ⟨rfl,rfl,rfl,rfl,rfl,rfl,rfl,rfl⟩
def siftS (S:List OpX):Nat->List OpX->List OpX->(Nat×Nat)⊕List OpX
 | _,fresh,[]=>.inr fresh
 | i,fresh,o::t=>if errO o=0 then (match lookK (S++fresh) (byO o) (numO o) with
   | none=>siftS S (i+1) (fresh++ [o]) t
   | some x=>if sameX x o=true then siftS S (i+1) fresh t else .inl (i,7)) else .inl (i,errO o)
theorem sift_bad {S fresh t:List OpX} {o:OpX} (h:errO o≠0):siftS S i fresh (o::t)= .inl (i,errO o):=by
 rw [siftS,if_neg h]
theorem sift_new {S fresh t:List OpX} {o:OpX} (h:errO o=0) (hl:lookK (S++fresh) (byO o) (numO o)=none):siftS S i fresh (o::t)=siftS S (i+1) (fresh++ [o]) t:=by
 rw [siftS,if_pos h,hl]
theorem sift_same {S fresh t:List OpX} {o:OpX} (h:errO o=0) (hl:lookK (S++fresh) (byO o) (numO o)=some o):siftS S i fresh (o::t)=siftS S (i+1) fresh t:=by
 rw [siftS,if_pos h,hl]
 exact if_pos (sameX_iff.2 rfl)
theorem sift_other {S fresh t:List OpX} {o x:OpX} (h:errO o=0) (hl:lookK (S++fresh) (byO o) (numO o)=some x) (hx:x≠o):siftS S i fresh (o::t)= .inl (i,7):=by
 rw [siftS,if_pos h,hl]
 exact if_neg (fun q=>hx (sameX_iff.1 q))
structure FreshK (S fresh:List OpX):Prop where
 ok:∀x∈fresh,errO x=0
 off:∀x∈fresh,∀y∈S,¬(byO y=byO x/\numO y=numO x)
 one:fresh.Pairwise (fun x y=>¬(byO x=byO y/\numO x=numO y))
theorem freshK_nil (S:List OpX):FreshK S []:=⟨fun x h=>qp,fun x h=>qp,List.Pairwise.nil⟩
theorem FreshK.snoc {S fresh:List OpX} (h:FreshK S fresh) {o:OpX} (ho:errO o=0) (hl:lookK (S++fresh) (byO o) (numO o)=none):FreshK S (fresh++ [o]):=by
 have hn:=lookK_none.1 hl
 refine ⟨fun x hx=> ?_,fun x hx=> ?_,?_⟩
 ·rcases vv.1 hx with h1 | h1
  ·exact h.ok x h1
  rw [vA.1 h1];exact ho
 ·rcases vv.1 hx with h1 | h1
  ·exact h.off x h1
  rw [vA.1 h1]
  exact fun y hy=>hn y (vN _ hy)
 refine Za.2 ⟨h.one,Zz _ _,fun x hx y hy=> ?_⟩
 rw [vA.1 hy]
 exact hn x (ub _ hx)
theorem sift_fresh {S:List OpX} :∀ {l:List OpX} {i:Nat} {fresh out:List OpX},FreshK S fresh->siftS S i fresh l= .inr out->FreshK S out/\(∀x,x∈out->x∈fresh\/x∈l)/\(∀x,x∈fresh->x∈out)/\(∀x∈l,x∈S\/x∈out)/\out.length<=fresh.length+l.length
 | [],_,_,_,hF,h=>by
  rw [siftS] at h
  cases h
  exact ⟨hF,fun x hx=>.inl hx,fun x hx=>hx,fun x hx=>zO,zm⟩
 | o::t,i,fresh,out,hF,h=>by
  by_cases ho:errO o=0
  ·cases hl:lookK (S++fresh) (byO o) (numO o) with
   | none=>
    rw [sift_new ho hl] at h
    obtain ⟨k1,k2,k3,k4,k5⟩:=sift_fresh (hF.snoc ho hl) h
    refine ⟨k1,fun x hx=> ?_,fun x hx=>k3 x (vN _ hx),fun x hx=> ?_,by simp at k5 |-;omega⟩
    ·rcases k2 x hx with q | q
     ·rcases vv.1 q with q | q
      ·exact .inl q
      exact .inr (by rw [vA.1 q];exact vW)
     exact .inr (vF _ q)
    rcases vz.1 hx with rfl | hx
    ·exact .inr (k3 x zm)
    exact k4 x hx
   | some x=>
    by_cases hx:x=o
    ·subst hx
     rw [sift_same ho hl] at h
     obtain ⟨k1,k2,k3,k4,k5⟩:=sift_fresh hF h
     refine ⟨k1,fun y hy=>(k2 y hy).imp (fun q=>q) (fun q=>vF _ q),k3,fun y hy=> ?_,by simp at k5 |-;omega⟩
     rcases vz.1 hy with rfl | hy
     ·rcases vv.1 (lookK_some hl).1 with q | q
      ·exact .inl q
      exact .inr (k3 _ q)
     exact k4 y hy
    rw [sift_other ho hl hx] at h
    cases h
  rw [sift_bad ho] at h
  cases h
theorem sift_fine {S T:List OpX} (h1:∀x∈S,∀y∈S,byO x=byO y->numO x=numO y->x=y) (hT:∀x∈T,∀y∈T,byO x=byO y->numO x=numO y->x=y) (hc:Compat S T) (hok:∀x∈T,errO x=0):
  ∀ {l:List OpX} (i:Nat) {fresh:List OpX},(∀x∈l,x∈T)->(∀x∈fresh,x∈T)->∃out,siftS S i fresh l= .inr out/\∀x∈out,x∈T
 | [],i,fresh,_,hf=>⟨fresh,rfl,hf⟩
 | o::t,i,fresh,hl,hf=>by
  have ho:=hok o (hl o vW)
  cases hk:lookK (S++fresh) (byO o) (numO o) with
  | none=>
   rw [sift_new ho hk]
   refine sift_fine h1 hT hc hok (i+1) (fun x hx=>hl x (vF _ hx)) (fun x hx=> ?_)
   rcases vv.1 hx with q | q
   ·exact hf x q
   rw [vA.1 q];exact hl o vW
  | some x=>
   obtain ⟨a,b,c⟩:=lookK_some hk
   have hx:x=o:=by
    rcases vv.1 a with q | q
    ·exact hc x q o (hl o vW) b c
    exact hT x (hf x q) o (hl o vW) b c
   subst hx
   rw [sift_same ho hk]
   exact sift_fine h1 hT hc hok (i+1) (fun x hx=>hl x (vF _ hx)) hf
abbrev Rws:=Nat->List OpX
def allR (R:Rws):List OpX:=R 0++(R 1++(R 2++R 3))
theorem mem_allR {R:Rws} {x:OpX} :x∈allR R↔∃i,i<4/\x∈R i:=by
 unfold allR
 simp only [vv]
 constructor
 ·rintro (h | h | h | h)
  ·exact ⟨0,zj,h⟩
  ·exact ⟨1,zj,h⟩
  ·exact ⟨2,zj,h⟩
  exact ⟨3,zj,h⟩
 rintro ⟨i,hi,h⟩
 match i,hi with
 | 0,_=>exact .inl h
 | 1,_=>exact .inr (.inl h)
 | 2,_=>exact .inr (.inr (.inl h))
 | 3,_=>exact .inr (.inr (.inr h))
def NumK (R:Rws):Prop:=∀i:Nat,i<4->∀(j:Nat) (x:OpX),(R i)[j]? =some x->byO x=(i:Int)/\numO x=(j:Int)+1/\errO x=0
def upR (R:Rws) (i:Nat) (l:List OpX):Rws:=fun j=>if j=i then l else R j
theorem numK_nil:NumK (fun _=>[]):=fun i _ j x h=>qp
theorem by_nat {x:OpX} (h:errO x=0):∃i:Nat,i<4/\byO x=(i:Int)/\(byO x).toNat=i:=by
 have h0:=opE_zero h
 have h1:0<=byO x:=h0.2.2.1
 have h2:byO x<4:=h0.2.2.2.1
 exact ⟨(byO x).toNat,zj,zj,rfl⟩
theorem NumK.get {R:Rws} (h:NumK R) (hi:i<4) {x:OpX} (hx:x∈R i):∃j:Nat,(R i)[j]? =some x/\byO x=(i:Int)/\numO x=(j:Int)+1/\errO x=0:=by
 obtain ⟨j,hj,rfl⟩:=uB hx
 have e:=vj hj
 exact ⟨j,e,h i hi j _ e⟩
theorem NumK.one {R:Rws} (h:NumK R):∀x∈allR R,∀y∈allR R,byO x=byO y->numO x=numO y->x=y:=by
 intro x hx y hy e1 e2
 obtain ⟨i,hi,hx⟩:=mem_allR.1 hx
 obtain ⟨k,hk,hy⟩:=mem_allR.1 hy
 obtain ⟨j,a1,a2,a3,_⟩:=h.get hi hx
 obtain ⟨j',b1,b2,b3,_⟩:=h.get hk hy
 obtain rfl:i=k:=zj
 obtain rfl:j=j':=zj
 rw [a1] at b1
 exact Option.some.inj b1
theorem NumK.ok {R:Rws} (h:NumK R):∀x∈allR R,errO x=0:=by
 intro x hx
 obtain ⟨i,hi,hx⟩:=mem_allR.1 hx
 obtain ⟨_,_,_,_,h⟩:=h.get hi hx
 exact h
theorem NumK.gap {R:Rws} (h:NumK R):∀x∈allR R,numO x=1\/∃y∈allR R,byO y=byO x/\numO y+1=numO x:=by
 intro x hx
 obtain ⟨i,hi,hx⟩:=mem_allR.1 hx
 obtain ⟨j,a1,a2,a3,_⟩:=h.get hi hx
 cases j with
 | zero=>exact .inl zj
 | succ j=>
  have hl:=(vi.1 a1).1
  have e:=vj (show j<(R i).length by omega)
  obtain ⟨b1,b2,_⟩:=h i hi j _ e
  exact .inr ⟨_,mem_allR.2 ⟨i,hi,vx e⟩,zj,zj⟩
theorem NumK.look {R:Rws} (h:NumK R) (hi:i<4):lookK (allR R) (i:Int) ((n:Int)+1)=(R i)[n]? :=by
 cases e:(R i)[n]? with
 | none=>
  refine lookK_none.2 (fun x hx ⟨e1,e2⟩=> ?_)
  obtain ⟨k,hk,hx⟩:=mem_allR.1 hx
  obtain ⟨j,a1,a2,a3,_⟩:=h.get hk hx
  obtain rfl:k=i:=zj
  obtain rfl:j=n:=zj
  rw [a1] at e
  cases e
 | some x=>
  obtain ⟨b1,b2,_⟩:=h i hi n x e
  rw [<-b1,<-b2]
  exact lookK_is h.one (mem_allR.2 ⟨i,hi,vx e⟩)
theorem mem_up {R:Rws} (hi:i<4) {o:OpX} {x:OpX} :x∈allR (upR R i (R i++ [o]))↔x∈allR R\/x=o:=by
 constructor
 ·intro h
  obtain ⟨k,hk,h⟩:=mem_allR.1 h
  unfold upR at h
  split at h
  ·rename_i e
   subst e
   rcases vv.1 h with h | h
   ·exact .inl (mem_allR.2 ⟨_,hk,h⟩)
   exact .inr (vA.1 h)
  exact .inl (mem_allR.2 ⟨k,hk,h⟩)
 rintro (h | rfl)
 ·obtain ⟨k,hk,h⟩:=mem_allR.1 h
  refine mem_allR.2 ⟨k,hk,?_⟩
  unfold upR
  split
  ·rename_i e
   subst e
   exact vN _ h
  exact h
 refine mem_allR.2 ⟨i,hi,?_⟩
 unfold upR
 rw [if_pos rfl]
 simp
theorem NumK.up {R:Rws} (h:NumK R) {i:Nat} {o:OpX} (ho:errO o=0) (hb:byO o=(i:Int)) (hn:numO o=((R i).length:Int)+1):NumK (upR R i (R i++ [o])):=by
 intro k hk j x hx
 unfold upR at hx
 split at hx
 ·rename_i e
  subst e
  rw [List.getElem?_append] at hx
  split at hx
  ·exact h _ hk j x hx
  rename_i hj
  obtain ⟨d,hd⟩:=za (j - (R k).length)
  rw [<-hd] at hx
  cases d with
  | zero=>
   cases hx
   exact ⟨hb,zj,ho⟩
  | succ d=>simp at hx
 exact h k hk j x hx
def Gap (S:List OpX):Prop:=∃x∈S,numO x≠1/\¬∃y∈S,byO y=byO x/\numO y+1=numO x
def Falls (S:List OpX):Prop:=∃x∈S,∃y∈S,byO x=byO y/\numO x+1=numO y/\¬CLt (stO x) (stO y)
theorem Gap.congr {S T:List OpX} (e:∀x,x∈S↔x∈T) (h:Gap S):Gap T:=by
 obtain ⟨x,hx,h1,h2⟩:=h
 exact ⟨x,(e x).1 hx,h1,fun ⟨y,hy,q⟩=>h2 ⟨y,(e y).2 hy,q⟩⟩
theorem Falls.congr {S T:List OpX} (e:∀x,x∈S↔x∈T) (h:Falls S):Falls T:=by
 obtain ⟨x,hx,y,hy,q⟩:=h
 exact ⟨x,(e x).1 hx,y,(e y).1 hy,q⟩
theorem NumK.nogap {R:Rws} (h:NumK R):¬Gap (allR R):=fun ⟨x,hx,h1,h2⟩=>by
 rcases h.gap x hx with q | q
 ·exact h1 q
 exact h2 q
def riseB (l:List OpX) (o:OpX):Bool:=match l.getLast? with
 | none=>true
 | some y=>decide (CLt (stO y) (stO o))
def withGo:Rws->Bool->List OpX->Option (Rws×Bool)
 | R,z,[]=>some (R,z)
 | R,z,o::t=>if numO o=((R (byO o).toNat).length:Int)+1 then withGo (upR R (byO o).toNat (R (byO o).toNat++ [o])) (z &&riseB (R (byO o).toNat) o) t else none
theorem falls_up {R:Rws} (h:NumK R) {i:Nat} (hi:i<4) {o:OpX} (hb:byO o=(i:Int)) (hn:numO o=((R i).length:Int)+1):Falls (allR (upR R i (R i++ [o])))↔Falls (allR R)\/riseB (R i) o=false:=by
 have hlast:∀y,(R i).getLast? =some y->y∈allR R/\byO y=byO o/\numO y+1=numO o:=fun y hy=>by
  have hy':(R i)[(R i).length - 1]? =some y:=by rw [<-List.getLast?_eq_getElem?];exact hy
  have hl:=(vi.1 hy').1
  obtain ⟨a,b,_⟩:=h i hi _ y hy'
  exact ⟨mem_allR.2 ⟨i,hi,vx hy'⟩,zj,zj⟩
 constructor
 ·rintro ⟨x,hx,y,hy,e1,e2,e3⟩
  rcases (mem_up hi).1 hx with hx1 | rfl
  ·rcases (mem_up hi).1 hy with hy1 | rfl
   ·exact .inl ⟨x,hx1,y,hy1,e1,e2,e3⟩
   refine .inr ?_
   obtain ⟨k,hk,hx'⟩:=mem_allR.1 hx1
   obtain ⟨j,a1,a2,a3,_⟩:=h.get hk hx'
   obtain rfl:k=i:=zj
   have hj:j=(R k).length - 1:=zj
   have hlst:(R k).getLast? =some x:=by rw [List.getLast?_eq_getElem?,<-hj];exact a1
   unfold riseB
   rw [hlst]
   exact decide_eq_false e3
  exfalso
  rcases (mem_up hi).1 hy with hy | rfl
  ·obtain ⟨k,hk,hy'⟩:=mem_allR.1 hy
   obtain ⟨j,a1,a2,a3,_⟩:=h.get hk hy'
   obtain rfl:k=i:=zj
   have:=(vi.1 a1).1
   omega
  omega
 rintro (⟨x,hx,y,hy,q⟩ | hr)
 ·exact ⟨x,(mem_up hi).2 (.inl hx),y,(mem_up hi).2 (.inl hy),q⟩
 unfold riseB at hr
 cases hl:(R i).getLast? with
 | none=>rw [hl] at hr;cases hr
 | some y=>
  rw [hl] at hr
  obtain ⟨a,b,c⟩:=hlast y hl
  exact ⟨y,(mem_up hi).2 (.inl a),o,(mem_up hi).2 (.inr rfl),b,c,of_decide_eq_false hr⟩
theorem withGo_is:∀(F:List OpX) (R:Rws) (z:Bool),NumK R->FreshK (allR R) F->F.Pairwise (fun a b=>numO a<=numO b)->(z=true↔¬Falls (allR R))->
  (withGo R z F=none/\Gap (allR R++F))\/∃R' z',withGo R z F=some (R',z')/\¬Gap (allR R++F)/\NumK R'/\(∀x,x∈allR R'↔x∈allR R++F)/\(z'=true↔¬Falls (allR R++F))/\(allR R').length=(allR R).length+F.length/\∀i,∃t,R' i=R i++t
 | [],R,z,hN,_,_,hz=>.inr ⟨R,z,rfl,by rw [ur];exact hN.nogap,hN,fun x=>by rw [ur],by rw [ur];exact hz,zm,fun i=>⟨[],zm⟩⟩
 | o::t,R,z,hN,hF,hs,hz=>by
  have ho:=hF.ok o vW
  obtain ⟨i,hi,hb,hbn⟩:=by_nat ho
  by_cases hn:numO o=((R i).length:Int)+1
  ·have hN1:=hN.up ho hb hn
   have hF1:FreshK (allR (upR R i (R i++ [o]))) t:=by
    refine ⟨fun x hx=>hF.ok x (vF _ hx),fun x hx y hy=> ?_,(uv.1 hF.one).2⟩
    rcases (mem_up hi).1 hy with hy | rfl
    ·exact hF.off x (vF _ hx) y hy
    exact (uv.1 hF.one).1 x hx
   have hz1:(z &&riseB (R i) o)=true↔¬Falls (allR (upR R i (R i++ [o]))):=by
    rw [falls_up hN hi hb hn,uQ,hz]
    cases riseB (R i) o<;>simp
   have hmem:∀x,x∈allR (upR R i (R i++ [o]))++t↔x∈allR R++o::t:=fun x=>by
    simp only [vv,mem_up hi,vz]
    constructor
    ·rintro ((h | h) | h)
     ·exact .inl h
     ·exact .inr (.inl h)
     exact .inr (.inr h)
    rintro (h | h | h)
    ·exact .inl (.inl h)
    ·exact .inl (.inr h)
    exact .inr h
   have hg:withGo R z (o::t)=withGo (upR R i (R i++ [o])) (z &&riseB (R i) o) t:=by rw [withGo,hbn,if_pos hn]
   have hlen:(allR (upR R i (R i++ [o]))).length=(allR R).length+1:=by
    unfold allR upR
    match i,hi with
    | 0,_=>simp;omega
    | 1,_=>simp;omega
    | 2,_=>simp;omega
    | 3,_=>simp;omega
   rcases withGo_is t _ _ hN1 hF1 (uv.1 hs).2 hz1 with ⟨a,b⟩ | ⟨R',z',a,b,c,d,e,f,g⟩
   ·exact .inl ⟨hg.trans a,b.congr hmem⟩
   refine .inr ⟨R',z',hg.trans a,fun q=>b (q.congr (fun x=>(hmem x).symm)),c,fun x=>(d x).trans (hmem x),e.trans (not_congr ⟨fun q=>q.congr hmem,fun q=>q.congr (fun x=>(hmem x).symm)⟩),by rw [f,hlen,vH];omega,fun k=> ?_⟩
   obtain ⟨t',ht'⟩:=g k
   unfold upR at ht'
   split at ht'
   ·rename_i ek
    subst ek
    exact ⟨o::t',by rw [ht'];simp⟩
   exact ⟨t',ht'⟩
  refine .inl ⟨by rw [withGo,hbn,if_neg hn],o,zm,?_,?_⟩
  ·intro h1
   have hlt:0<(R i).length:=zj
   have e:=vj hlt
   obtain ⟨b1,b2,_⟩:=hN i hi 0 _ e
   exact hF.off o vW _ (mem_allR.2 ⟨i,hi,vx e⟩) ⟨zj,zj⟩
  rintro ⟨y,hy,e1,e2⟩
  rcases vv.1 hy with hy | hy
  ·obtain ⟨k,hk,hy⟩:=mem_allR.1 hy
   obtain ⟨j,a1,a2,a3,_⟩:=hN.get hk hy
   obtain rfl:k=i:=zj
   have hj:=(vi.1 a1).1
   have hl:j+1<(R k).length:=by
    rcases uK (j+1) (R k).length with q | q
    ·exact q
    exact absurd zj hn
   have e:=vj hl
   obtain ⟨b1,b2,_⟩:=hN k hk (j+1) _ e
   exact hF.off o vW _ (mem_allR.2 ⟨k,hk,vx e⟩) ⟨zj,by push_cast at b2;omega⟩
  rcases vz.1 hy with rfl | hy
  ·omega
  have:=(uv.1 hs).1 y hy
  omega
structure RowsK (R:Rws):Prop where
 num:NumK R
 well:WellK (allR R)
theorem rowsK_nil:RowsK (fun _=>[]):=⟨numK_nil,by unfold allR;exact wellK_nil⟩
theorem RowsK.nofall {R:Rws} (h:RowsK R):¬Falls (allR R):=fun ⟨x,hx,y,hy,e1,e2,e3⟩=>e3 (h.well.rise x hx y hy e1 e2)
theorem RowsK.rise {R:Rws} (h:RowsK R) (hi:i<4):(R i).Pairwise (fun a b=>CLt (stO a) (stO b)):=by
 rw [uh]
 intro a b ha hb hab
 have ea:=vj ha
 have eb:=vj hb
 obtain ⟨a1,a2,_⟩:=h.num i hi a _ ea
 obtain ⟨b1,b2,_⟩:=h.num i hi b _ eb
 exact h.well.less (mem_allR.2 ⟨i,hi,vx ea⟩) (b - a - 1) (mem_allR.2 ⟨i,hi,vx eb⟩) zj zj
structure RowsN (R:Rws):Prop where
 num:NumK R
 up:∀x∈allR R,∀y∈allR R,byO x=byO y->numO x+1=numO y->CLt (stO x) (stO y)
theorem RowsK.toN {R:Rws} (h:RowsK R):RowsN R:=⟨h.num,h.well.rise⟩
theorem RowsN.less {R:Rws} (h:RowsN R) {x:OpX} (hx:x∈allR R):∀(d:Nat) {y:OpX},y∈allR R->byO x=byO y->numO x+(d+1)=numO y->CLt (stO x) (stO y)
 | 0,y,hy,e1,e2=>h.up x hx y hy e1 zj
 | d+1,y,hy,e1,e2=>by
  rcases h.num.gap y hy with q | ⟨z,hz,z1,z2⟩
  ·have:=num_pos (h.num.ok x hx)
   omega
  exact clt_trans (h.less hx d hz zj zj) (h.up z hz y hy z1 z2)
theorem RowsN.stamp {R:Rws} (h:RowsN R) {x y:OpX} (hx:x∈allR R) (hy:y∈allR R) (e:stO x=stO y):x=y:=by
 have e1:byO x=byO y:=(Prod.mk.inj e).2
 rcases Int.lt_trichotomy (numO x) (numO y) with q | q | q
 ·have:=h.less hx (numO y - numO x - 1).toNat hy e1 zj
  rw [e] at this
  exact absurd this clt_irrefl
 ·exact h.num.one x hx y hy e1 q
 have:=h.less hy (numO x - numO y - 1).toNat hx e1.symm zj
 rw [e] at this
 exact absurd this clt_irrefl
theorem RowsN.rise {R:Rws} (h:RowsN R) (hi:i<4):(R i).Pairwise (fun a b=>CLt (stO a) (stO b)):=by
 rw [uh]
 intro a b ha hb hab
 have ea:=vj ha
 have eb:=vj hb
 obtain ⟨a1,a2,_⟩:=h.num i hi a _ ea
 obtain ⟨b1,b2,_⟩:=h.num i hi b _ eb
 exact h.less (mem_allR.2 ⟨i,hi,vx ea⟩) (b - a - 1) (mem_allR.2 ⟨i,hi,vx eb⟩) zj zj
def JoinIs (S l:List OpX) (a:(Int×Nat)⊕List OpX):Prop:=match siftS S 0 [] l with
 | .inl (i,c)=>a= .inl ((i:Int),c)
 | .inr fresh=>(Gap (S++fresh)/\a= .inl (-1,9))\/(¬Gap (S++fresh)/\Falls (S++fresh)/\a= .inl (-1,3))\/(¬Gap (S++fresh)/\¬Falls (S++fresh)/\(∃x∈S++fresh,¬RefOk (S++fresh) x)/\a= .inl (-1,6))\/(WellK (S++fresh)/\400<S.length+fresh.length/\a= .inl (-1,8))\/(WellK (S++fresh)/\S.length+fresh.length<=400/\a= .inr fresh)
end
section
def letO (x:OpX):Nat:=(x.2.2.2.2.2.2.2.data.toList.headD 0).toNat
def insO (nd:Int) (x:OpX):Option (Int×Ltr):=if kdO x=105/\nodeO x=nd then some (otherO x,(idO x,letO x,false)) else none
def GoneIn (A:List OpX) (nd id:Int):Prop:=∃x∈A,kdO x=100/\nodeO x=nd/\otherO x=id
theorem goneAny (A:List OpX) (nd id:Int):(A.any fun x=>decide (kdO x=100/\nodeO x=nd/\otherO x=id))=true↔GoneIn A nd id:=by simp [GoneIn]
def decGone (A:List OpX) (nd id:Int):Decidable (GoneIn A nd id):=decidable_of_iff _ (goneAny A nd id)
def hideL (A:List OpX) (nd:Int) (l:Ltr):Ltr:= @ite _ (GoneIn A nd l.1) (decGone A nd l.1) (l.1,0,true) l
theorem hideL_id (A:List OpX) (nd:Int) (l:Ltr):(hideL A nd l).1=l.1:=by unfold hideL;split<;>rfl
theorem hide_ids (A:List OpX) (nd:Int) (L:List Ltr):(L.map (hideL A nd)).map (·.1)=L.map (·.1):=by rw [List.map_map];exact uO fun l _=>hideL_id A nd l
def LineIs (A:List OpX) (nd:Int) (L:List Ltr):Prop:=∃s,s.Perm (A.filterMap (insO nd))/\First s/\L=(putAll s []).map (hideL A nd)
theorem laid_map {f:Ltr->Ltr} (hf:∀l,(f l).1=l.1) {x:Ltr} (hx:f x=x):∀L,laid x (L.map f)=(laid x L).map f
 | []=>by simp [laid,hx]
 | h::t=>by
  by_cases k:x.1<h.1
  ·rw [ug,laid_yes xG,laid_yes k,ug,laid_map hf hx t]
  rw [ug,laid_no xG,laid_no k,ug,ug,hx]
theorem putB_map {f:Ltr->Ltr} (hf:∀l,(f l).1=l.1) {x:Ltr} (hx:f x=x) (b:Int):∀L,putB b x (L.map f)=(putB b x L).map f
 | []=>by simp [putB]
 | h::t=>by
  by_cases k:h.1=b
  ·rw [ug,putB_yes xG,putB_yes k,ug,laid_map hf hx t]
  rw [ug,putB_no xG,putB_no k,ug,putB_map hf hx b t]
theorem put_map (hf:∀l,(f l).1=l.1) (hx:f x=x) (b:Int) (L:List Ltr):put b x (L.map f)=(put b x L).map f:=by
 unfold put
 split
 ·exact laid_map hf hx L
 exact putB_map hf hx b L
theorem putAll_ids:∀(n:Nat) (s:List (Int×Ltr)),s.length=n->First s->((putAll s []).map (·.1)).Perm (s.map (·.2.1))
 | 0,s,hn,_=>by rw [vM.1 hn];exact List.Perm.refl _
 | n+1,s,hn,h=>by
  rcases snoc_cases s with rfl | ⟨u,m,rfl⟩
  ·simp at hn
  have hu:=first_init h
  have ih:=putAll_ids n u (by simp at hn;exact hn) hu
  rw [putAll_app,putAll_one]
  have hb:m.1=0\/m.1∈(putAll u []).map (·.1):=by
   rcases h.2.2 u m [] zm with q | ⟨y,hy,q⟩
   ·exact .inl q
   exact .inr (ih.mem_iff.2 (vV.2 ⟨y,hy,q⟩))
  refine (put_ids hb).trans ?_
  rw [uq,ug,uS]
  exact ((ih.cons m.2.1)).trans (uG (l₁:=[m.2.1]))
theorem LineIs.ids {A:List OpX} (h:LineIs A nd L):(L.map (·.1)).Perm ((A.filterMap (insO nd)).map (·.2.1)):=by
 obtain ⟨s,h1,h2,rfl⟩:=h
 rw [hide_ids]
 exact (putAll_ids _ s rfl h2).trans (h1.map _)
theorem LineIs.mem {A:List OpX} (h:LineIs A nd L) :id∈L.map (·.1)↔LetterN A nd id:=by
 rw [h.ids.mem_iff]
 constructor
 ·intro q
  obtain ⟨m,hm,rfl⟩:=vV.1 q
  obtain ⟨x,hx,e⟩:=Zi.1 hm
  unfold insO at e
  split at e
  ·rename_i k
   cases e
   exact ⟨x,hx,k.1,k.2,rfl⟩
  cases e
 rintro ⟨x,hx,k1,k2,k3⟩
 exact vV.2 ⟨_,Zi.2 ⟨x,hx,if_pos ⟨k1,k2⟩⟩,k3⟩
theorem LineIs.nodup {A:List OpX} (h:LineIs A nd L):(L.map (·.1)).Nodup:=by
 obtain ⟨s,h1,h2,rfl⟩:=h
 rw [hide_ids]
 exact (putAll_ids _ s rfl h2).nodup_iff.2 h2.1
theorem LineIs.len {A:List OpX} (h:LineIs A nd L):L.length<=A.length:=by
 have:=h.ids.length_eq
 rw [ue,ue] at this
 rw [this]
 exact List.length_filterMap_le _ _
theorem LineIs.perm {A B:List OpX} (h:LineIs A nd L) (e:A.Perm B):LineIs B nd L:=by
 obtain ⟨s,h1,h2,rfl⟩:=h
 have hg:∀id,GoneIn A nd id↔GoneIn B nd id:=fun id=>⟨fun ⟨x,hx,q⟩=>⟨x,e.mem_iff.1 hx,q⟩,fun ⟨x,hx,q⟩=>⟨x,e.mem_iff.2 hx,q⟩⟩
 refine ⟨s,h1.trans (e.filterMap _),h2,uO (fun l _=> ?_)⟩
 unfold hideL
 by_cases q:GoneIn A nd l.1
 ·rw [if_pos q,if_pos ((hg _).1 q)]
 rw [if_neg q,if_neg (fun k=>q ((hg _).2 k))]
theorem LineIs.unique {A:List OpX} {M:List Ltr} (h:LineIs A nd L) (k:LineIs A nd M):L=M:=by
 obtain ⟨s,h1,h2,rfl⟩:=h
 obtain ⟨r,k1,k2,rfl⟩:=k
 rw [putAll_turned _ s r rfl (h1.trans k1.symm) h2 k2]
theorem LineIs.skip {A:List OpX} (h:LineIs A nd L) {x:OpX} (hx:¬(nodeO x=nd/\(kdO x=105\/kdO x=100))):LineIs (x::A) nd L:=by
 obtain ⟨s,h1,h2,rfl⟩:=h
 refine ⟨s,?_,h2,uO (fun l _=> ?_)⟩
 ·rw [List.filterMap_cons_none (show insO nd x=none from if_neg (fun q=>hx ⟨q.2,.inl q.1⟩))]
  exact h1
 have hg:GoneIn (x::A) nd l.1↔GoneIn A nd l.1:=by
  constructor
  ·rintro ⟨y,hy,q⟩
   rcases vz.1 hy with rfl | hy
   ·exact absurd ⟨q.2.1,.inr q.1⟩ hx
   exact ⟨y,hy,q⟩
  rintro ⟨y,hy,q⟩
  exact ⟨y,vF _ hy,q⟩
 unfold hideL
 by_cases q:GoneIn A nd l.1
 ·rw [if_pos q,if_pos (hg.2 q)]
 rw [if_neg q,if_neg (fun k=>q (hg.1 k))]
theorem LineIs.ins {A:List OpX} (h:LineIs A nd L) {x:OpX} (hk:kdO x=105) (hn:nodeO x=nd) (hnew:idO x∉L.map (·.1)) (hpos:idO x≠0) (ho:otherO x=0\/otherO x∈L.map (·.1)) (hg:¬GoneIn A nd (idO x)):LineIs (x::A) nd (put (otherO x) (idO x,letO x,false) L):=by
 have hids:=h.ids
 obtain ⟨s,h1,h2,rfl⟩:=h
 rw [hide_ids] at hnew ho hids
 have hps:=putAll_ids _ s rfl h2
 have hgo:∀id,GoneIn (x::A) nd id↔GoneIn A nd id:=fun id=>by
  constructor
  ·rintro ⟨y,hy,q⟩
   rcases vz.1 hy with rfl | hy
   ·rw [hk] at q;exact absurd q.1 zt
   exact ⟨y,hy,q⟩
  rintro ⟨y,hy,q⟩
  exact ⟨y,vF _ hy,q⟩
 have hhide:∀l,hideL (x::A) nd l=hideL A nd l:=fun l=>by
  unfold hideL
  by_cases q:GoneIn A nd l.1
  ·rw [if_pos q,if_pos ((hgo _).2 q)]
  rw [if_neg q,if_neg (fun k=>q ((hgo _).1 k))]
 have hxl:hideL A nd (idO x,letO x,false)=(idO x,letO x,false):=if_neg hg
 refine ⟨s++ [(otherO x,(idO x,letO x,false))],?_,⟨?_,?_,?_⟩,?_⟩
 ·rw [List.filterMap_cons_some (show insO nd x=some _ from if_pos ⟨hk,hn⟩)]
  exact (uG).trans (h1.cons _)
 ·rw [uq,uf]
  refine ⟨h2.1,zm,fun a ha b hb=> ?_⟩
  simp at hb
  subst hb
  intro e
  subst e
  exact hnew (hps.mem_iff.2 ha)
 ·intro m hm
  rcases vv.1 hm with hm | hm
  ·exact h2.2.1 m hm
  rw [vA.1 hm];exact hpos
 ·intro u m v e
  rcases snoc_cases v with rfl | ⟨v',q,rfl⟩
  ·obtain ⟨rfl,e2⟩:=List.append_inj' e rfl
   cases e2
   rcases ho with ho | ho
   ·exact .inl ho
   obtain ⟨y,hy,e⟩:=vV.1 (hps.mem_iff.1 ho)
   exact .inr ⟨y,hy,e⟩
  have e':s++ [(otherO x,(idO x,letO x,false))]=(u++m::v')++ [q]:=by rw [e];simp
  obtain ⟨rfl,_⟩:=List.append_inj' e' rfl
  exact h2.2.2 u m v' rfl
 rw [putAll_app,putAll_one,put_map (hideL_id A nd) hxl]
 exact uO (fun l _=>(hhide l).symm)
theorem LineIs.del {A:List OpX} (h:LineIs A nd L) {x:OpX} (hk:kdO x=100) (hn:nodeO x=nd) (hf:findL (otherO x) L=some i):LineIs (x::A) nd (L.set i (otherO x,0,true)):=by
 have hnd:=h.nodup
 obtain ⟨s,h1,h2,rfl⟩:=h
 refine ⟨s,?_,h2,?_⟩
 ·rw [List.filterMap_cons_none (show insO nd x=none from if_neg (fun q=>by rw [hk] at q;exact absurd q.1 zt))]
  exact h1
 obtain ⟨l0,hl0,hid⟩:=findL_some hf
 have hgo:∀id,GoneIn (x::A) nd id↔id=otherO x\/GoneIn A nd id:=fun id=>by
  constructor
  ·rintro ⟨y,hy,q⟩
   rcases vz.1 hy with rfl | hy
   ·exact .inl q.2.2.symm
   exact .inr ⟨y,hy,q⟩
  rintro (rfl | ⟨y,hy,q⟩)
  ·exact ⟨x,vW,hk,hn,rfl⟩
  exact ⟨y,vF _ hy,q⟩
 rw [hide_ids] at hnd
 refine List.ext_getElem? (fun j=> ?_)
 rw [List.getElem?_set,ue,uu,uu]
 rw [uu] at hl0
 cases hj:(putAll s [])[j]? with
 | none=>
  have hjl:=List.getElem?_eq_none_iff.1 hj
  split
  ·rename_i e
   subst e
   rw [if_neg zj]
   rfl
  rfl
 | some l=>
  have hjl:=(vi.1 hj).1
  split
  ·rename_i e
   subst e
   rw [if_pos hjl]
   rw [hj] at hl0
   cases hl0
   rw [hideL_id] at hid
   have hq:hideL (x::A) nd l=(l.1,0,true):=if_pos ((hgo _).2 (.inl hid))
   simp only [uX,hq,hid]
  rename_i e
  have hne:l.1≠otherO x:=fun q=>e (by
   have hil:i<(putAll s []).length:=by
    cases hi:(putAll s [])[i]? with
    | none=>rw [hi] at hl0;cases hl0
    | some _=>exact (vi.1 hi).1
   have e1:((putAll s []).map (·.1))[i]? =some (otherO x):=by
    rw [uu]
    cases hi:(putAll s [])[i]? with
    | none=>rw [hi] at hl0;cases hl0
    | some l'=>
     rw [hi] at hl0
     cases hl0
     rw [hideL_id] at hid
     simp [hid]
   have e2:((putAll s []).map (·.1))[j]? =some (otherO x):=by rw [uu,hj];simp [q]
   exact (List.getElem?_inj (by simpa using hil) hnd).1 (e1.trans e2.symm))
  have hq:hideL (x::A) nd l=hideL A nd l:=by
   unfold hideL
   by_cases q:GoneIn A nd l.1
   ·rw [if_pos q,if_pos ((hgo _).2 (.inr q))]
   rw [if_neg q,if_neg (fun k=>((hgo _).1 k).elim hne q)]
  simp only [uX,hq]
theorem LineIs.new {A:List OpX} (h:∀x∈A,nodeO x=nd->kdO x≠105):LineIs A nd []:=by
 refine ⟨[],?_,⟨zm,fun m hm=>by simp at hm,fun u m v e=>jb⟩,rfl⟩
 rw [show List.filterMap (insO nd) A= [] from List.filterMap_eq_nil_iff.2 (fun x hx=>if_neg (fun q=>h x hx q.2 q.1))]
def movO (x:OpX):Option Mov:=if kdO x=109 then some ((x.1,x.2.1),(nodeO x,otherO x,x.2.2.2.2.2.2.1)) else none
def movsO (A:List OpX):List Mov:=A.filterMap movO
def timeO (A:List OpX) (T:Int):Prop:=(∀x∈A,x.1<=T)/\(T=0\/∃x∈A,x.1=T)/\0<=T
theorem timeO_nil:timeO [] 0:=⟨fun x h=>qp,.inl rfl,Int.le_refl _⟩
theorem timeO_cons {A:List OpX} {T:Int} (h:timeO A T) (x:OpX) (hx:1<=x.1):timeO (x::A) (if T<x.1 then x.1 else T):=by
 obtain ⟨h1,h2,h3⟩:=h
 split
 ·rename_i q
  refine ⟨fun y hy=> ?_,.inr ⟨x,vW,rfl⟩,zj⟩
  rcases vz.1 hy with rfl | hy
  ·exact Int.le_refl _
  have:=h1 y hy;omega
 rename_i q
 refine ⟨fun y hy=> ?_,h2.imp (fun e=>e) (fun ⟨y,hy,e⟩=>⟨y,vF _ hy,e⟩),h3⟩
 rcases vz.1 hy with rfl | hy
 ·omega
 exact h1 y hy
end
section
open scoped Classical
theorem err_by {x:OpX} (h:errO x=0):1<=x.1/\x.1<=1073741824/\0<=byO x/\byO x<4:=by
 have h0:=opE_zero h
 exact ⟨h0.1,h0.2.1,h0.2.2.1,h0.2.2.2.1⟩
theorem err_refs {x:OpX} (h:errO x=0):((kdO x=109/\nodeO x<=idO x)\/nodeO x<idO x)/\otherO x<idO x/\0<=nodeO x/\0<=otherO x/\(kdO x=109->2<=nodeO x)/\(kdO x=100->otherO x≠0):=by
 have h0:=opE_zero h
 have hid:4<=idO x:=by unfold idO;have:=h0.1;have:=h0.2.2.1;omega
 unfold errO opE at h
 rw [if_pos ⟨h0.1,h0.2.1,h0.2.2.1,h0.2.2.2.1,h0.2.2.2.2.1,h0.2.2.2.2.2.1⟩] at h
 have e:x.1*4+x.2.1=idO x:=rfl
 rw [e] at h
 unfold kindE at h
 split at h
 ·rename_i hk
  unfold moveE at h
  split at h
  ·cases h
  rename_i hc
  have hk':kdO x=109:=hk
  have e1:x.2.2.2.2.1=nodeO x:=rfl
  have e2:x.2.2.2.2.2.1=otherO x:=rfl
  rw [e1,e2] at hc
  exact ⟨.inl ⟨hk',zj⟩,zj,zj,zj,fun _=>zj,fun k=>by rw [hk'] at k;exact absurd k zt⟩
 rename_i hk
 have hk':kdO x≠109:=hk
 split at h
 ·rename_i hki
  unfold insE at h
  split at h
  ·cases h
  rename_i hc
  have e1:x.2.2.2.2.1=nodeO x:=rfl
  have e2:x.2.2.2.2.2.1=otherO x:=rfl
  rw [e1,e2] at hc
  have hki':kdO x=105:=hki
  exact ⟨.inr zj,zj,zj,zj,fun k=>absurd k hk',fun k=>by rw [hki'] at k;exact absurd k zt⟩
 split at h
 ·unfold delE at h
  split at h
  ·cases h
  rename_i hc
  have e1:x.2.2.2.2.1=nodeO x:=rfl
  have e2:x.2.2.2.2.2.1=otherO x:=rfl
  rw [e1,e2] at hc
  exact ⟨.inr zj,zj,zj,zj,fun k=>absurd k hk',fun _=>zj⟩
 rename_i hkd
 have hkd':kdO x≠100:=hkd
 split at h
 ·unfold setE at h
  split at h
  ·cases h
  rename_i hc
  have e1:x.2.2.2.2.1=nodeO x:=rfl
  have e2:x.2.2.2.2.2.1=otherO x:=rfl
  rw [e1,e2] at hc
  exact ⟨.inr zj,zj,zj,zj,fun k=>absurd k hk',fun k=>absurd k hkd'⟩
 cases h
theorem id_inj {x y:OpX} (hx:errO x=0) (hy:errO y=0) (e:idO x=idO y):stO x=stO y:=by
 have h1:=err_by hx
 have h2:=err_by hy
 unfold idO at e
 have e1:x.2.1=byO x:=rfl
 have e2:y.2.1=byO y:=rfl
 rw [e1,e2] at e
 have a:x.1=y.1:=zj
 have b:byO x=byO y:=zj
 unfold stO
 rw [a,show x.2.1=y.2.1 from b]
theorem id_lt {x y:OpX} (hx:errO x=0) (hy:errO y=0) (h:idO x<idO y):CLt (stO x) (stO y):=by
 have h1:=err_by hx
 have h2:=err_by hy
 unfold idO at h
 have e1:x.2.1=byO x:=rfl
 have e2:y.2.1=byO y:=rfl
 rw [e1,e2] at h
 unfold CLt stO
 dsimp only
 rw [e1,e2]
 omega
theorem id_pos {x:OpX} (hx:errO x=0):4<=idO x:=by
 have h1:=err_by hx
 unfold idO
 have e1:x.2.1=byO x:=rfl
 rw [e1]
 omega
structure StepOk (A:List OpX) (o:OpX):Prop where
 ok:errO o=0
 new:∀x∈A,stO x≠stO o
 refs:RefOk (o::A) o
 all:∀x∈A,errO x=0/\RefOk A x
 uniq:∀x∈A,∀y∈A,stO x=stO y->x=y
theorem StepOk.perm {A B:List OpX} {o:OpX} (h:StepOk A o) (e:A.Perm B):StepOk B o:=
 ⟨h.ok,fun x hx=>h.new x (e.mem_iff.2 hx),h.refs.mono (fun x hx=>by rcases vz.1 hx with rfl | hx;exact vW;exact vF _ (e.mem_iff.1 hx)),fun x hx=>⟨(h.all x (e.mem_iff.2 hx)).1,(h.all x (e.mem_iff.2 hx)).2.mono (fun y hy=>e.mem_iff.1 hy)⟩,fun x hx y hy=>h.uniq x (e.mem_iff.2 hx) y (e.mem_iff.2 hy)⟩
theorem StepOk.idnew {A:List OpX} {o:OpX} (h:StepOk A o):∀x∈A,idO x≠idO o:=fun x hx e=>h.new x hx (id_inj (h.all x hx).1 h.ok e)
theorem StepOk.fresh {A:List OpX} {o:OpX} (h:StepOk A o) (e:nodeO o=idO o):(¬KnownN A (nodeO o))/\∀x∈A,nodeO x≠nodeO o:=by
 have hk:¬KnownN A (nodeO o):=fun ⟨x,hx,_,_,q⟩=>h.idnew x hx (q.trans e)
 refine ⟨hk,fun x hx q=> ?_⟩
 rcases (h.all x hx).2.1 with ⟨_,k⟩ | k
 ·exact h.idnew x hx (by rw [k,q,e])
 rw [q] at k;exact hk k
theorem known_tail {A:List OpX} {o:OpX} {nd:Int} (h:KnownN (o::A) nd) (hn:nd≠idO o):KnownN A nd:=by
 obtain ⟨x,hx,q⟩:=h
 rcases vz.1 hx with rfl | hx
 ·exact absurd q.2.2.symm hn
 exact ⟨x,hx,q⟩
theorem letter_tail {A:List OpX} {o:OpX} {nd id:Int} (h:LetterN (o::A) nd id) (hn:id≠idO o):LetterN A nd id:=by
 obtain ⟨x,hx,q⟩:=h
 rcases vz.1 hx with rfl | hx
 ·exact absurd q.2.2.symm hn
 exact ⟨x,hx,q⟩
theorem StepOk.node {A:List OpX} {o:OpX} (h:StepOk A o) (e:nodeO o≠idO o):KnownN A (nodeO o):=by
 rcases h.refs.1 with ⟨_,q⟩ | q
 ·exact absurd q.symm e
 exact known_tail q e
theorem StepOk.letter {A:List OpX} {o:OpX} (h:StepOk A o) (hk:(kdO o=105/\0<otherO o)\/kdO o=100):LetterN A (nodeO o) (otherO o):=by
 have:=(err_refs h.ok).2.1
 exact letter_tail (h.refs.2.2 hk) zj
theorem StepOk.line {A:List OpX} {o:OpX} (h:StepOk A o) (hk:kdO o=105\/kdO o=100\/kdO o=115):nodeO o≠idO o:=by
 rcases (err_refs h.ok).1 with ⟨q,_⟩ | q
 ·rw [q] at hk;rcases hk with k | k | k<;>exact absurd k zt
 omega
theorem StepOk.ungone {A:List OpX} {o:OpX} (h:StepOk A o) (nd:Int):¬GoneIn A nd (idO o):=fun ⟨x,hx,k,e1,e2⟩=>by
 obtain ⟨y,hy,_,_,q⟩:=(h.all x hx).2.2.2 (.inr k)
 exact h.idnew y hy (q.trans e2)
theorem known_cons {A:List OpX} {o:OpX} :KnownN (o::A) nd↔KnownN A nd\/(kdO o=109/\nodeO o=nd/\idO o=nd):=by
 constructor
 ·rintro ⟨x,hx,q⟩
  rcases vz.1 hx with rfl | hx
  ·exact .inr q
  exact .inl ⟨x,hx,q⟩
 rintro (⟨x,hx,q⟩ | q)
 ·exact ⟨x,vF _ hx,q⟩
 exact ⟨o,vW,q⟩
theorem prefix_step {S K ys:List OpX} (hW:WellK S) (hS:∀x,x∈S↔x∈K\/x∈ys) (hK:∀x∈K,RefOk K x) (hs:ys.Pairwise (fun a b=>CLt (stO a) (stO b))) (hoff:∀x∈ys,x∉K) {k:Nat} {o:OpX} (ho:ys[k]? =some o):StepOk (K++ys.take k) o:=by
 have hoy:o∈ys:=vx ho
 have hkl:=(vi.1 ho).1
 have hsub:∀x,x∈K++ys.take k->x∈S:=fun x hx=>(hS x).2 ((vv.1 hx).imp (fun q=>q) (fun q=>uz q))
 have hp:=uh.1 hs
 have low:∀(j:Nat) (x y:OpX),ys[j]? =some x->y∈S->idO y<idO x->y∈K++ys.take j:=fun j x y hj hy hlt=>by
  have hxS:x∈S:=(hS x).2 (.inr (vx hj))
  have hc:=id_lt (hW.ok y hy) (hW.ok x hxS) hlt
  rcases (hS y).1 hy with q | q
  ·exact vN _ q
  obtain ⟨i,hi,rfl⟩:=uB q
  have hij:i<j:=by
   rcases Nat.lt_trichotomy i j with h | h | h
   ·exact h
   ·subst h
    rw [vj hi] at hj
    cases hj
    exact absurd hc clt_irrefl
   obtain ⟨hjl,rfl⟩:=vi.1 hj
   exact absurd (clt_trans hc (hp j i hjl hi h)) clt_irrefl
  refine ub _ (vx (i:=i) ?_)
  rw [un,if_pos hij]
  exact vj hi
 have refs:∀(j:Nat) (x:OpX),ys[j]? =some x->RefOk (x::(K++ys.take j)) x:=fun j x hj=>by
  have hxS:x∈S:=(hS x).2 (.inr (vx hj))
  have hr:=hW.refs x hxS
  have he:=err_refs (hW.ok x hxS)
  have up:∀y,y∈S->idO y<idO x->y∈x::(K++ys.take j):=fun y hy hl=>vF _ (low j x y hj hy hl)
  refine ⟨?_,fun hk=> ?_,fun hk=> ?_⟩
  ·rcases hr.1 with q | ⟨y,hy,q1,q2,q3⟩
   ·exact .inl q
   rcases he.1 with ⟨q,q'⟩ | q
   ·by_cases e:idO x=nodeO x
    ·exact .inl ⟨q,e⟩
    exact .inr ⟨y,up y hy zj,q1,q2,q3⟩
   exact .inr ⟨y,up y hy zj,q1,q2,q3⟩
  ·rcases hr.2.1 hk with q | q | ⟨y,hy,q1,q2,q3⟩
   ·exact .inl q
   ·exact .inr (.inl q)
   exact .inr (.inr ⟨y,up y hy zj,q1,q2,q3⟩)
  obtain ⟨y,hy,q1,q2,q3⟩:=hr.2.2 hk
  exact ⟨y,up y hy zj,q1,q2,q3⟩
 refine ⟨hW.ok o ((hS o).2 (.inr hoy)),fun x hx e=> ?_,refs k o ho,fun x hx=>⟨hW.ok x (hsub x hx),?_⟩,fun x hx y hy e=>hW.stamp (hsub x hx) (hsub y hy) e⟩
 ·rcases vv.1 hx with q | q
  ·have:=hW.stamp (hsub x hx) ((hS o).2 (.inr hoy)) e
   subst this
   exact hoff x hoy q
  obtain ⟨i,hi,rfl⟩:=uB q
  have hi':i<k/\i<ys.length:=by rw [vP] at hi;omega
  have hc:=hp i k hi'.2 hkl hi'.1
  rw [List.getElem_take] at e
  rw [(vi.1 ho).2,e] at hc
  exact clt_irrefl hc
 rcases vv.1 hx with q | q
 ·exact (hK x q).mono (fun y hy=>vN _ hy)
 obtain ⟨i,hi,e⟩:=uB q
 have hi':i<k/\i<ys.length:=by rw [vP] at hi;omega
 rw [List.getElem_take] at e
 have hxi:ys[i]? =some x:=by rw [<-e];exact vj hi'.2
 refine (refs i x hxi).mono (fun y hy=> ?_)
 rcases vz.1 hy with rfl | hy
 ·exact hx
 rcases vv.1 hy with hy | hy
 ·exact vN _ hy
 refine ub _ ?_
 have:ys.take i=(ys.take k).take i:=qU
 rw [this] at hy
 exact uz hy
end
section
open Go.ChangeShapes Go.WideShapes Go.ChangeAt Go.RowKit Go.Joins
theorem gPow:prog.globalNamed "internal/strconv.uint64pow10" =some 9:=zk
theorem tPow:(prog.globals[9]?).map (·.type)=some 275:=zk
theorem cellsPow:prog.cellsOf 275=20:=zk
theorem cellsU64:prog.cellsOf 226=1:=zk
theorem tab_of {W:World} (h:Lib.VarReads prog W "internal/strconv.uint64pow10" (Lib.tabData .u64 Lib.pow10Tab)):Lib.TabIs prog W "internal/strconv.uint64pow10" .u64 Lib.pow10Tab:=by
 obtain ⟨g,t,cs,fuel,p,hg,ht,hvar,hd⟩:=h
 obtain rfl:=Option.some.inj (gPow.symm.trans hg)
 obtain rfl:=Option.some.inj (tPow.symm.trans ht)
 unfold Lib.TabIs
 rw [hvar,<-Lib.cells_of_tab underlying275 underlying226 cellsU64 cellsPow hd]
