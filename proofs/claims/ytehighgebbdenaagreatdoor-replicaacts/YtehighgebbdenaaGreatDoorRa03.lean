import Derived.Test.YtehighgebbdenaaGreatDoorRa02
set_option maxRecDepth 100000
namespace Go.Proofs.YtehighgebbdenaaGreatDoor
open Go.Proofs.Tryz
variable {D:DataW Unit} {z:DataW Unit×List MemPlace} {T b id nd r:Int} {a:Int×Int} {L:List Ltr} {A B:List OpX} {f:Ltr→Ltr} {i n:Nat} {o x y:OpX} {w:World}
section
def Jz (p:Ltr->Bool) (zs:List Ltr) (r:Int):Prop:=
 (r= -1/\∀l∈zs,p l=false)\/∃(i:Nat) (l:Ltr),r=(i:Int)/\zs[i]? =some l/\p l=true/\∀j g,j<i->zs[j]? =some g->p g=false
def iV (b:Int) (L:List Ltr):Int:=match cZ b L with
 | none=> -1
 | some i=>(i:Int)
theorem ox (h:Jz (fun l=>decide (l.1=b)) L r):r=iV b L:=by
 unfold iV
 rcases h with ⟨rfl,h⟩ | ⟨i,l,rfl,hl,hp,hn⟩
 ·cases hf:cZ b L with
  | none=>rfl
  | some i=>
   obtain ⟨l,h1,h2⟩:=cF hf;have:=h l (vQ h1);simp [h2] at this
 rw [AP hl (by simpa using hp) (fun j g hj hg=>by simpa using hn j g hj hg)]
theorem ew (h:b∉L.map (·.1)):iV b L= -1:=by
 unfold iV
 cases hf:cZ b L with
 | none=>rfl
 | some i=>
  obtain ⟨l,h1,h2⟩:=cF hf;exact absurd (ut.2 ⟨l,vQ h1,h2⟩) h
theorem lS (h:b∈L.map (·.1)):∃i:Nat,iV b L=(i:Int)/\cZ b L=some i/\i<L.length:=by
 obtain ⟨i,hi⟩:=eQ h;obtain ⟨l,h1,_⟩:=cF hi;exact ⟨i,by unfold iV;rw [hi],hi,(vL.1 h1).1⟩
theorem Ij (hn:id∉L.map (·.1)) (h:Jz (fun l=>decide (l.1<id)) L r):(r= -1/\ce id L=L.length)\/r=(ce id L:Int):=by
 have hne:∀l∈L,l.1≠id:=fun l hl e=>hn (ut.2 ⟨l,hl,e⟩)
 rcases h with ⟨rfl,h⟩ | ⟨i,l,rfl,hl,hp,hq⟩
 ·refine .inl ⟨rfl,lZ zg (fun i l _ e=> ?_) (fun l e=>qt)⟩;have h1:=h l (vQ e);have h2:=hne l (vQ e);simp at h1;omega
 right;rw [lZ (n:=i) (ZS (vL.1 hl).1) (fun j g hj e=> ?_) (fun g e=> ?_)]
 ·have h1:=hq j g hj e;have h2:=hne g (vQ e);simp at h1;omega
 rw [hl] at e
 cases e
 simp at hp;omega
def fX (l:Ltr):Ltr:=if l.2.2 then (l.1,0,true) else l
theorem tB (l:Ltr):(fX l).1=l.1:=by unfold fX;split<;>rfl
theorem nk (L:List Ltr):(L.map fX).map (·.1)=L.map (·.1):=by rw [ZT];exact ZE fun l _=>tB l
theorem mM (x:Ltr) (hx:fX x=x):∀L,laid x (L.map fX)=(laid x L).map fX
 | []=>by simp [laid,hx]
 | h::t=>by
  by_cases k:x.1<h.1
  ·rw [ac k,uG,ac qZ,mM x hx t];rfl
  rw [bC k,uG,bC qZ];simp [hx]
theorem rO (b:Int) (x:Ltr) (hx:fX x=x):∀L,oV b x (L.map fX)=(oV b x L).map fX
 | []=>rfl
 | h::t=>by
  by_cases k:h.1=b
  ·rw [bv k,uG,bv qZ,mM x hx t];rfl
  rw [bd k,uG,bd qZ,rO b x hx t];rfl
theorem Gh (b:Int) (x:Ltr) (hx:fX x=x) (L:List Ltr):put b x (L.map fX)=(put b x L).map fX:=by
 unfold put;split
 ·exact mM x hx L
 exact rO b x hx L
theorem lG (L:List Ltr):aK (L.map fX)=aK L:=by
 unfold aK
 induction L with
 | nil=>rfl
 | cons h t ih=>
  rw [uG];by_cases k:h.2.2=true
  ·have e:fX h=(h.1,0,true):=by unfold fX;rw [if_pos k]
   rw [e,List.filter_cons_of_neg zv,List.filter_cons_of_neg (by simp [k]),ih]
  have e:fX h=h:=by unfold fX;rw [if_neg k]
  rw [e,ZO,ZO,ih]
theorem FS (id:Int) (c:Nat):(L.set i (id,c,true)).map fX=(L.map fX).set i (id,0,true):=by
 rw [List.map_set];rfl
theorem JA {l:Ltr} (h:L[i]? =some l) (c:Nat) (g:Bool):(L.set i (l.1,c,g)).map (·.1)=L.map (·.1):=by
 rw [List.map_set];apply List.ext_getElem?;intro j;by_cases e:j=i
 ·subst e;have hl:=(vL.1 h).1;rw [Zm (by simpa using hl)];simp [h]
 rw [ZH zo]
theorem pK (b:Int):∀L:List Ltr,cZ b (L.map fX)=cZ b L
 | []=>rfl
 | h::t=>by
  rw [uG];unfold cZ;rw [tB,pK b t]
theorem FZ {x:Ltr} (h:b=0\/b∈L.map (·.1)) (hn:(L.map (·.1)).Nodup) (hx:x.1∉L.map (·.1)):((put b x L).map (·.1)).Nodup:=by
 rw [(EU h).nodup_iff];exact List.nodup_cons.2 ⟨hx,hn⟩
end
section
abbrev Plc:=Int×Int×ByteArray
abbrev Sta:=Int->Option Plc
abbrev Mov:=(Int×Int)×Plc
def cV:Plc:=(0,0,⟨#[]⟩)
def mq:Sta:=fun _=>none
def ki (f:Sta):Nat->Int->Int->Bool
 | 0,_,_=>false
 | n+1,node,of=>match f node with
  | none=>false
  | some p=>decide (p.2.1=of) ||ki f n p.2.1 of
def Ins (f:Sta) (node of:Int):Prop:=∃n,ki f n node of=true
theorem fg {f:Sta} {node:Int} (h:f node=none) (n:Nat) (of:Int):ki f n node of=false:=by
 cases n<;>simp [ki,h]
theorem eF {f:Sta} {node:Int} {p:Plc} (h:f node=some p) (n:Nat) (of:Int):ki f (n+1) node of=(decide (p.2.1=of) ||ki f n p.2.1 of):=by
 simp [ki,h]
theorem rI (f:Sta):∀(n:Nat) (node of:Int),ki f n node of=true->ki f (n+1) node of=true
 | 0,_,_,h=>by simp [ki] at h
 | n+1,node,of,h=>by
  cases hf:f node with
  | none=>rw [fg hf] at h;cases h
  | some p=>
   rw [eF hf] at h |-
   rw [Zz] at h |-
   exact h.imp id (rI f n _ _)
theorem wJ {f:Sta} {node of:Int} (h:f node=none):¬Ins f node of:=by
 rintro ⟨n,hn⟩;rw [fg h] at hn
 cases hn
theorem oG {f:Sta} {node of:Int} {p:Plc} (h:f node=some p):Ins f node of↔p.2.1=of\/Ins f p.2.1 of:=by
 constructor
 ·rintro ⟨n,hn⟩
  cases n with
  | zero=>simp [ki] at hn
  | succ n=>
   rw [eF h,Zz] at hn;exact hn.imp zv (fun e=>⟨n,e⟩)
 rintro (e | ⟨n,hn⟩)
 ·exact ⟨1,by rw [eF h];simp [e]⟩
 exact ⟨n+1,by rw [eF h,hn];simp⟩
def Hi (f:Sta) (d:Int->Nat):Prop:=∀k p,f k=some p->d p.2.1<d k
theorem KH {f:Sta} {x y:Int} {p:Plc} (h:f x=some p) (hy:p.2.1=y\/Ins f p.2.1 y):Ins f x y:=(oG h).2 hy
def upd (f:Sta) (k:Int) (v:Option Plc):Sta:=fun x=>if x=k then v else f x
theorem eU (f:Sta) (k:Int) (v:Option Plc):upd f k v k=v:=by simp [upd]
theorem ct {f:Sta} {k x:Int} {v:Option Plc} (h:x≠k):upd f k v x=f x:=by simp [upd,h]
structure FineP (p:Plc):Prop where
 ne:p.1≠0
 lo:0<=p.1
 hi:p.1<2^62
 lo':0<=p.2.1
 hi':p.2.1<2^62
 sz:p.2.2.size<=60
theorem FineP.ne_zero {p:Plc} (h:FineP p):p≠cV:=fun e=>h.ne vg
structure gr (f:Sta):Prop where
 rank:∃d,Hi f d
 key:∀k p,f k=some p->p.1=k
 fine:∀k p,f k=some p->FineP p
theorem JC:gr mq:=⟨⟨fun _=>0,fun k p h=>by simp [mq] at h⟩,fun k p h=>by simp [mq] at h,fun k p h=>by simp [mq] at h⟩
def BK (f:Sta) (p:Plc):Prop:=p.1=p.2.1\/Ins f p.2.1 p.1
def step [∀(f:Sta) (p:Plc),Decidable (BK f p)] (f:Sta) (m:Mov):Sta:=if BK f m.2 then f else upd f m.2.1 (some m.2)
open scoped Classical
theorem fj {f:Sta} {m:Mov} (h:BK f m.2):step f m=f:=by unfold step;rw [if_pos h]
theorem fu {f:Sta} {m:Mov} (h:¬BK f m.2):step f m=upd f m.2.1 (some m.2):=by unfold step;rw [if_neg h]
theorem Ay {f:Sta} {m:Mov} {x:Int} (h:x≠m.2.1):step f m x=f x:=by
 by_cases hi:BK f m.2
 ·rw [fj hi]
 rw [fu hi,ct h]
theorem DO {f:Sta} {m:Mov} (G:gr f) (hm:FineP m.2):gr (step f m):=by
 by_cases hi:BK f m.2
 ·rw [fj hi];exact G
 rw [fu hi];obtain ⟨s,c,q,nm⟩:=m
 dsimp only at hi hm |-
 have hcq:c≠q:=fun e=>hi (.inl e)
 have hqc:¬Ins f q c:=fun e=>hi (.inr e)
 refine ⟨?_,fun k p h=> ?_,fun k p h=> ?_⟩
 ·obtain ⟨d,hd⟩:=G.rank
  classical
  refine ⟨fun x=>if x=c\/Ins f x c then d x+d q+1 else d x,fun k p h=> ?_⟩;by_cases hk:k=c
  ·subst hk;rw [eU] at h
   cases h
   dsimp only;rw [if_neg (fun e=>e.elim (fun e=>hcq e.symm) hqc),if_pos (.inl rfl)];omega
  rw [ct hk] at h;have h1:=hd k p h;dsimp only;by_cases hp:p.2.1=c\/Ins f p.2.1 c
  ·rw [if_pos hp,if_pos (.inr (KH h hp))];omega
  rw [if_neg hp];split<;>omega
 ·by_cases hk:k=c
  ·subst hk;rw [eU] at h;cases h;rfl
  rw [ct hk] at h;exact G.key k p h
 by_cases hk:k=c
 ·subst hk;rw [eU] at h;cases h;exact hm
 rw [ct hk] at h;exact G.fine k p h
def IP (f:Sta) (node:Int) (fr:Plc):Sta:=upd f node (if fr=cV then none else some fr)
theorem DL {f:Sta} {m:Mov} (G:gr f):IP (step f m) m.2.1 ((f m.2.1).getD cV)=f:=by
 funext x;unfold IP;by_cases hx:x=m.2.1
 ·subst hx;rw [eU]
  cases h:f m.2.1 with
  | none=>simp
  | some p=>
   rw [ZP,if_neg (G.fine _ p h).ne_zero]
 rw [ct hx,Ay hx]
def Bf [∀(f:Sta) (p:Plc),Decidable (BK f p)] (f:Sta) (ms:List Mov):Sta:=ms.foldl step f
theorem AI (f:Sta) (ms:List Mov) (m:Mov):Bf f (ms++ [m])=step (Bf f ms) m:=by simp [Bf]
theorem rS:∀(ms:List Mov) (f:Sta),gr f->(∀m∈ms,FineP m.2)->gr (Bf f ms)
 | [],_,G,_=>G
 | m::r,f,G,h=>rS r (step f m) (DO G (h m zv)) (fun x hx=>h x (by simp [hx]))
def aN [∀(f:Sta) (p:Plc),Decidable (BK f p)] (ms:List Mov):Sta:=Bf mq ms
theorem fq {ms:List Mov} (h:∀m∈ms,FineP m.2):gr (aN ms):=rS ms _ JC h
theorem pA (ms:List Mov) (m:Mov):aN (ms++ [m])=step (aN ms) m:=AI _ _ _
theorem rm {ms:List Mov} {m:Mov} (h:ms[i]? =some m):aN (ms.take (i+1))=step (aN (ms.take i)) m:=by
 rw [uS,h];exact pA _ _
def kQ [∀(f:Sta) (p:Plc),Decidable (BK f p)] (ms:List Mov) (i:Nat):Plc:=match ms[i]? with
 | none=>cV
 | some m=>(aN (ms.take i) m.2.1).getD cV
def SLt (a b:Int×Int):Prop:=a.1<b.1\/(a.1=b.1/\a.2<b.2)
theorem nO :¬SLt a a:=by unfold SLt;omega
theorem iL {b c:Int×Int} (h:SLt a b) (k:SLt b c):SLt a c:=by unfold SLt at*;omega
theorem DI {b:Int×Int} (h:a≠b) (k:¬SLt a b):SLt b a:=by
 obtain ⟨a1,a2⟩:=a;obtain ⟨b1,b2⟩:=b
 have:¬(a1=b1/\a2=b2):=fun e=>h (by rw [e.1,e.2])
 unfold SLt at*;dsimp only at*;omega
def ax (ms:List Mov):Prop:=ms.Pairwise (fun a b=>SLt a.1 b.1)
def gI (ms:List Mov) (i:Nat) (m:Mov):List Mov:=ms.take i++m::ms.drop i
theorem kS (ms:List Mov) (i:Nat) (m:Mov):(gI ms i m).Perm (m::ms):=by
 unfold gI;have h1:(ms.take i++m::ms.drop i).Perm (m::(ms.take i++ms.drop i)):=List.perm_middle;rwa [ur] at h1
theorem rW (ms:List Mov) (i:Nat) (m:Mov):(gI ms i m).length=ms.length+1:=by
 rw [(kS ms i m).length_eq];rfl
theorem GM {ms:List Mov} {m:Mov} (h:ax ms) (h1:∀x∈ms.take i,SLt x.1 m.1) (h2:∀x∈ms.drop i,SLt m.1 x.1):ax (gI ms i m):=by
 unfold ax gI;rw [uY];refine ⟨h.sublist (List.take_sublist _ _),uC.2 ⟨h2,h.sublist (List.drop_sublist _ _)⟩,fun a ha b hb=> ?_⟩
 rcases vT.1 hb with rfl | hb
 ·exact h1 a ha
 exact iL (h1 a ha) (h2 b hb)
theorem BP {ms:List Mov} {m:Mov} (hi:i<=ms.length):(gI ms i m).take i=ms.take i:=by
 unfold gI;rw [uZ zr,List.take_take,Nat.min_self]
theorem gH:∀ {l l':List Mov},l.Perm l'->ax l->ax l'->l=l'
 | [],l',hp,_,_=>by have:=hp.length_eq;cases l' with | nil=>rfl | cons _ _=>simp at this
 | a::r,[],hp,_,_=>by have:=hp.length_eq;simp at this
 | a::r,b::r',hp,h,h'=>by
  obtain ⟨h1,h2⟩:=uC.1 h;obtain ⟨h1',h2'⟩:=uC.1 h'
  have e:a=b:=by
   rcases vT.1 (hp.mem_iff.1 (uv (a:=a) (l:=r))) with e | ha
   ·exact e
   rcases vT.1 (hp.mem_iff.2 (uv (a:=b) (l:=r'))) with e | hb
   ·exact e.symm
   exact absurd (iL (h1 b hb) (h1' a ha)) nO
  subst e;rw [gH (List.perm_cons a |>.1 hp) h2 h2']
structure IsPlaces (f:Sta) (L:List Plc):Prop where
 rise:L.Pairwise (fun a b=>a.1<b.1)
 mem:∀p,p∈L↔f p.1=some p
theorem iM:∀ {L L':List Plc},L.Pairwise (fun a b=>a.1<b.1)->L'.Pairwise (fun a b=>a.1<b.1)->(∀p,p∈L↔p∈L')->L=L'
 | [],[],_,_,_=>rfl
 | [],b::r',_,_,h=>by have:=(h b).2 zv;simp at this
 | a::r,[],_,_,h=>by have:=(h a).1 zv;simp at this
 | a::r,b::r',hl,hl',h=>by
  obtain ⟨h1,h2⟩:=uC.1 hl;obtain ⟨h1',h2'⟩:=uC.1 hl'
  have e:a=b:=by
   rcases vT.1 ((h a).1 zv) with e | ha
   ·exact e
   rcases vT.1 ((h b).2 zv) with e | hb
   ·exact e.symm
   have x:=h1 b hb;have y:=h1' a ha;omega
  subst e;rw [iM h2 h2' (fun p=> ?_)];constructor
  ·intro hp
   rcases vT.1 ((h p).1 (by simp [hp])) with e | hp'
   ·subst e;have:=h1 p hp;omega
   exact hp'
  intro hp
  rcases vT.1 ((h p).2 (by simp [hp])) with e | hp'
  ·subst e;have:=h1' p hp;omega
  exact hp'
theorem IsPlaces.unique {f:Sta} {L L':List Plc} (h:IsPlaces f L) (h':IsPlaces f L'):L=L':=
 iM h.rise h'.rise (fun p=>(h.mem p).trans (h'.mem p).symm)
end
section
def CJ (x:OpX):Nat:=(x.2.2.2.2.2.2.2.data.toList.headD 0).toNat
def JB (nd:Int) (x:OpX):Option (Int×Ltr):=if kdO x=105/\aL x=nd then some (aJ x,(idO x,CJ x,false)) else none
def dZ (A:List OpX) (nd id:Int):Prop:=∃x∈A,kdO x=100/\aL x=nd/\aJ x=id
theorem IB (A:List OpX) (nd id:Int):(A.any fun x=>decide (kdO x=100/\aL x=nd/\aJ x=id))=true↔dZ A nd id:=by simp [dZ]
def Ii (A:List OpX) (nd id:Int):Decidable (dZ A nd id):=decidable_of_iff _ (IB A nd id)
def iR (A:List OpX) (nd:Int) (l:Ltr):Ltr:= @ite _ (dZ A nd l.1) (Ii A nd l.1) (l.1,0,true) l
theorem kr (A:List OpX) (nd:Int) (l:Ltr):(iR A nd l).1=l.1:=by unfold iR;split<;>rfl
theorem lX (A:List OpX) (nd:Int) (L:List Ltr):(L.map (iR A nd)).map (·.1)=L.map (·.1):=by rw [ZT];exact ZE fun l _=>kr A nd l
def LineIs (A:List OpX) (nd:Int) (L:List Ltr):Prop:=∃s,s.Perm (A.filterMap (JB nd))/\oN s/\L=(cG s []).map (iR A nd)
theorem nr {f:Ltr->Ltr} (hf:∀l,(f l).1=l.1) {x:Ltr} (hx:f x=x):∀L,laid x (L.map f)=(laid x L).map f
 | []=>by simp [laid,hx]
 | h::t=>by
  by_cases k:x.1<h.1
  ·rw [uG,ac xU,ac k,uG,nr hf hx t]
  rw [uG,bC xU,bC k,uG,uG,hx]
theorem AY {f:Ltr->Ltr} (hf:∀l,(f l).1=l.1) {x:Ltr} (hx:f x=x) (b:Int):∀L,oV b x (L.map f)=(oV b x L).map f
 | []=>by simp [oV]
 | h::t=>by
  by_cases k:h.1=b
  ·rw [uG,bv xU,bv k,uG,nr hf hx t]
  rw [uG,bd xU,bd k,uG,AY hf hx b t]
theorem IL (hf:∀l,(f l).1=l.1) {x:Ltr} (hx:f x=x) (b:Int) (L:List Ltr):put b x (L.map f)=(put b x L).map f:=by
 unfold put;split
 ·exact nr hf hx L
 exact AY hf hx b L
theorem gK:∀(n:Nat) (s:List (Int×Ltr)),s.length=n->oN s->((cG s []).map (·.1)).Perm (s.map (·.2.1))
 | 0,s,hn,_=>by rw [uh.1 hn];exact List.Perm.refl _
 | n+1,s,hn,h=>by
  rcases gW s with rfl | ⟨u,m,rfl⟩
  ·simp at hn
  have hu:=ml h;have ih:=gK n u (by simp at hn;exact hn) hu;rw [dA,gU]
  have hb:m.1=0\/m.1∈(cG u []).map (·.1):=by
   rcases h.2.2 u m [] zv with q | ⟨y,hy,q⟩
   ·exact .inl q
   exact .inr (ih.mem_iff.2 (ut.2 ⟨y,hy,q⟩))
  refine (EU hb).trans ?_;rw [uI,uG,ZR];exact ((ih.cons m.2.1)).trans (Zw (l₁:=[m.2.1]))
theorem LineIs.ids (h:LineIs A nd L):(L.map (·.1)).Perm ((A.filterMap (JB nd)).map (·.2.1)):=by
 obtain ⟨s,h1,h2,rfl⟩:=h;rw [lX];exact (gK _ s rfl h2).trans (h1.map _)
theorem LineIs.mem (h:LineIs A nd L) :id∈L.map (·.1)↔LetterN A nd id:=by
 rw [h.ids.mem_iff];constructor
 ·intro q;obtain ⟨m,hm,rfl⟩:=ut.1 q;obtain ⟨x,hx,e⟩:=Zv.1 hm;unfold JB at e;split at e
  ·rename_i k
   cases e
   exact ⟨x,hx,k.1,k.2,rfl⟩
  cases e
 rintro ⟨x,hx,k1,k2,k3⟩;exact ut.2 ⟨_,Zv.2 ⟨x,hx,if_pos ⟨k1,k2⟩⟩,k3⟩
theorem LineIs.nodup (h:LineIs A nd L):(L.map (·.1)).Nodup:=by
 obtain ⟨s,h1,h2,rfl⟩:=h;rw [lX];exact (gK _ s rfl h2).nodup_iff.2 h2.1
theorem LineIs.len (h:LineIs A nd L):L.length<=A.length:=by
 have:=h.ids.length_eq;rw [uz,uz] at this;rw [this];exact List.length_filterMap_le _ _
theorem LineIs.perm (h:LineIs A nd L) (e:A.Perm B):LineIs B nd L:=by
 obtain ⟨s,h1,h2,rfl⟩:=h
 have hg:∀id,dZ A nd id↔dZ B nd id:=fun id=>⟨fun ⟨x,hx,q⟩=>⟨x,e.mem_iff.1 hx,q⟩,fun ⟨x,hx,q⟩=>⟨x,e.mem_iff.2 hx,q⟩⟩
 refine ⟨s,h1.trans (e.filterMap _),h2,ZE (fun l _=> ?_)⟩;unfold iR;by_cases q:dZ A nd l.1
 ·rw [if_pos q,if_pos ((hg _).1 q)]
 rw [if_neg q,if_neg (fun k=>q ((hg _).2 k))]
theorem LineIs.unique {M:List Ltr} (h:LineIs A nd L) (k:LineIs A nd M):L=M:=by
 obtain ⟨s,h1,h2,rfl⟩:=h;obtain ⟨r,k1,k2,rfl⟩:=k;rw [iO _ s r rfl (h1.trans k1.symm) h2 k2]
theorem LineIs.skip (h:LineIs A nd L) (hx:¬(aL x=nd/\(kdO x=105\/kdO x=100))):LineIs (x::A) nd L:=by
 obtain ⟨s,h1,h2,rfl⟩:=h;refine ⟨s,?_,h2,ZE (fun l _=> ?_)⟩
 ·rw [List.filterMap_cons_none (show JB nd x=none from if_neg (fun q=>hx ⟨q.2,.inl q.1⟩))];exact h1
 have hg:dZ (x::A) nd l.1↔dZ A nd l.1:=by
  constructor
  ·rintro ⟨y,hy,q⟩
   rcases vT.1 hy with rfl | hy
   ·exact absurd ⟨q.2.1,.inr q.1⟩ hx
   exact ⟨y,hy,q⟩
  rintro ⟨y,hy,q⟩;exact ks6
 unfold iR;by_cases q:dZ A nd l.1
 ·rw [if_pos q,if_pos (hg.2 q)]
 rw [if_neg q,if_neg (fun k=>q (hg.1 k))]
theorem LineIs.ins (h:LineIs A nd L) (hk:kdO x=105) (hn:aL x=nd) (hnew:idO x∉L.map (·.1)) (hpos:idO x≠0) (ho:aJ x=0\/aJ x∈L.map (·.1)) (hg:¬dZ A nd (idO x)):LineIs (x::A) nd (put (aJ x) (idO x,CJ x,false) L):=by
 have hids:=h.ids;obtain ⟨s,h1,h2,rfl⟩:=h;rw [lX] at hnew ho hids;have hps:=gK _ s rfl h2
 have hgo:∀id,dZ (x::A) nd id↔dZ A nd id:=fun id=>by
  constructor
  ·rintro ⟨y,hy,q⟩
   rcases vT.1 hy with rfl | hy
   ·rw [hk] at q;exact absurd q.1 zu
   exact ⟨y,hy,q⟩
  rintro ⟨y,hy,q⟩;exact ks6
 have hhide:∀l,iR (x::A) nd l=iR A nd l:=fun l=>by
  unfold iR;by_cases q:dZ A nd l.1
  ·rw [if_pos q,if_pos ((hgo _).2 q)]
  rw [if_neg q,if_neg (fun k=>q ((hgo _).1 k))]
 have hxl:iR A nd (idO x,CJ x,false)=(idO x,CJ x,false):=if_neg hg;refine ⟨s++ [(aJ x,(idO x,CJ x,false))],?_,⟨?_,?_,?_⟩,?_⟩
 ·rw [List.filterMap_cons_some (show JB nd x=some _ from if_pos ⟨hk,hn⟩)];exact (Zw).trans (h1.cons _)
 ·rw [uI,Ze];refine ⟨h2.1,zv,fun a ha b hb=> ?_⟩;simp at hb;subst hb;intro e;subst e;exact hnew (hps.mem_iff.2 ha)
 ·intro m hm
  rcases vW.1 hm with hm | hm
  ·exact h2.2.1 m hm
  rw [uq.1 hm];exact hpos
 ·intro u m v e
  rcases gW v with rfl | ⟨v',q,rfl⟩
  ·obtain ⟨rfl,e2⟩:=List.append_inj' e rfl
   cases e2
   rcases ho with ho | ho
   ·exact .inl ho
   obtain ⟨y,hy,e⟩:=ut.1 (hps.mem_iff.1 ho);exact .inr ⟨y,hy,e⟩
  have e':s++ [(aJ x,(idO x,CJ x,false))]=(u++m::v')++ [q]:=by rw [e];simp
  obtain ⟨rfl,_⟩:=List.append_inj' e' rfl;exact h2.2.2 u m v' rfl
 rw [dA,gU,IL (kr A nd) hxl];exact ZE (fun l _=>(hhide l).symm)
theorem LineIs.del (h:LineIs A nd L) (hk:kdO x=100) (hn:aL x=nd) (hf:cZ (aJ x) L=some i):LineIs (x::A) nd (L.set i (aJ x,0,true)):=by
 have hnd:=h.nodup;obtain ⟨s,h1,h2,rfl⟩:=h;refine ⟨s,?_,h2,?_⟩
 ·rw [List.filterMap_cons_none (show JB nd x=none from if_neg (fun q=>by rw [hk] at q;exact absurd q.1 zu))];exact h1
 obtain ⟨l0,hl0,hid⟩:=cF hf
 have hgo:∀id,dZ (x::A) nd id↔id=aJ x\/dZ A nd id:=fun id=>by
  constructor
  ·rintro ⟨y,hy,q⟩
   rcases vT.1 hy with rfl | hy
   ·exact .inl q.2.2.symm
   exact .inr ⟨y,hy,q⟩
  rintro (rfl | ⟨y,hy,q⟩)
  ·exact ⟨x,uv,hk,hn,rfl⟩
  exact ks6
 rw [lX] at hnd;refine List.ext_getElem? (fun j=> ?_);rw [List.getElem?_set,uz,Zf,Zf];rw [Zf] at hl0
 cases hj:(cG s [])[j]? with
 | none=>
  have hjl:=List.getElem?_eq_none_iff.1 hj;split
  ·rename_i e;subst e;rw [if_neg zo];rfl
  rfl
 | some l=>
  have hjl:=(vL.1 hj).1;split
  ·rename_i e;subst e;rw [if_pos hjl];rw [hj] at hl0
   cases hl0
   rw [kr] at hid;have hq:iR (x::A) nd l=(l.1,0,true):=if_pos ((hgo _).2 (.inl hid));simp only [Zs,hq,hid]
  rename_i e
  have hne:l.1≠aJ x:=fun q=>e (by
   have hil:i<(cG s []).length:=by
    cases hi:(cG s [])[i]? with
    | none=>rw [hi] at hl0;cases hl0
    | some _=>exact (vL.1 hi).1
   have e1:((cG s []).map (·.1))[i]? =some (aJ x):=by
    rw [Zf]
    cases hi:(cG s [])[i]? with
    | none=>rw [hi] at hl0;cases hl0
    | some l'=>
     rw [hi] at hl0
     cases hl0
     rw [kr] at hid
     simp [hid]
   have e2:((cG s []).map (·.1))[j]? =some (aJ x):=by rw [Zf,hj];simp [q]
   exact (List.getElem?_inj (by simpa using hil) hnd).1 (e1.trans e2.symm))
  have hq:iR (x::A) nd l=iR A nd l:=by
   unfold iR;by_cases q:dZ A nd l.1
   ·rw [if_pos q,if_pos ((hgo _).2 (.inr q))]
   rw [if_neg q,if_neg (fun k=>((hgo _).1 k).elim hne q)]
  simp only [Zs,hq]
theorem LineIs.new (h:∀x∈A,aL x=nd->kdO x≠105):LineIs A nd []:=by
 refine ⟨[],?_,⟨zv,fun m hm=>by simp at hm,fun u m v e=>qt⟩,rfl⟩;rw [show List.filterMap (JB nd) A= [] from List.filterMap_eq_nil_iff.2 (fun x hx=>if_neg (fun q=>h x hx q.2 q.1))]
def Gg (x:OpX):Option Mov:=if kdO x=109 then some ((x.1,x.2.1),(aL x,aJ x,x.2.2.2.2.2.2.1)) else none
def ai (A:List OpX):List Mov:=A.filterMap Gg
def du (A:List OpX) (T:Int):Prop:=(∀x∈A,x.1<=T)/\(T=0\/∃x∈A,x.1=T)/\0<=T
theorem lN:du [] 0:=⟨fun x h=>qu,.inl rfl,Int.le_refl _⟩
theorem bJ {T':Int} (h:du A T) (k:du A T'):T=T':=by
 obtain ⟨h1,h2,h3⟩:=h;obtain ⟨k1,k2,k3⟩:=k
 rcases h2 with rfl | ⟨x,hx,rfl⟩<;>rcases k2 with rfl | ⟨y,hy,rfl⟩
 ·rfl
 ·have:=h1 y hy;omega
 ·have:=k1 x hx;omega
 have:=h1 y hy;have:=k1 x hx;omega
theorem Bq (h:du A T) (x:OpX) (hx:1<=x.1):du (x::A) (if T<x.1 then x.1 else T):=by
 obtain ⟨h1,h2,h3⟩:=h;split
 ·rename_i q;refine ⟨fun y hy=> ?_,.inr ⟨x,uv,rfl⟩,zo⟩
  rcases vT.1 hy with rfl | hy
  ·exact Int.le_refl _
  have:=h1 y hy;omega
 rename_i q;refine ⟨fun y hy=> ?_,h2.imp (fun e=>e) (fun ⟨y,hy,e⟩=>⟨y,ul _ hy,e⟩),h3⟩
 rcases vT.1 hy with rfl | hy
 ·omega
 exact h1 y hy
end
section
open scoped Classical
theorem ir (h:an x=0):1<=x.1/\x.1<=1073741824/\0<=byO x/\byO x<4:=by
 have h0:=aq h;exact ⟨h0.1,h0.2.1,h0.2.2.1,h0.2.2.2.1⟩
theorem dG (h:an x=0):((kdO x=109/\aL x<=idO x)\/aL x<idO x)/\aJ x<idO x/\0<=aL x/\0<=aJ x/\(kdO x=109->2<=aL x)/\(kdO x=100->aJ x≠0):=by
 have h0:=aq h
 have hid:4<=idO x:=by unfold idO;have:=h0.1;have:=h0.2.2.1;omega
 unfold an opE at h;rw [if_pos ⟨h0.1,h0.2.1,h0.2.2.1,h0.2.2.2.1,h0.2.2.2.2.1,h0.2.2.2.2.2.1⟩] at h;have e:x.1*4+x.2.1=idO x:=rfl;rw [e] at h;unfold fi at h;split at h
 ·rename_i hk;unfold bF at h;split at h
  ·cases h
  rename_i hc;have hk':kdO x=109:=hk;have e1:x.2.2.2.2.1=aL x:=rfl;have e2:x.2.2.2.2.2.1=aJ x:=rfl;rw [e1,e2] at hc;exact ⟨.inl ⟨hk',zo⟩,zo,zo,zo,fun _=>zo,fun k=>by rw [hk'] at k;exact absurd k zu⟩
 rename_i hk;have hk':kdO x≠109:=hk;split at h
 ·rename_i hki;unfold gV at h;split at h
  ·cases h
  rename_i hc;have e1:x.2.2.2.2.1=aL x:=rfl;have e2:x.2.2.2.2.2.1=aJ x:=rfl;rw [e1,e2] at hc;have hki':kdO x=105:=hki;exact ⟨.inr zo,zo,zo,zo,fun k=>absurd k hk',fun k=>by rw [hki'] at k;exact absurd k zu⟩
 split at h
 ·unfold gu at h;split at h
  ·cases h
  rename_i hc;have e1:x.2.2.2.2.1=aL x:=rfl;have e2:x.2.2.2.2.2.1=aJ x:=rfl;rw [e1,e2] at hc;exact ⟨.inr zo,zo,zo,zo,fun k=>absurd k hk',fun _=>zo⟩
 rename_i hkd;have hkd':kdO x≠100:=hkd;split at h
 ·unfold gy at h;split at h
  ·cases h
  rename_i hc;have e1:x.2.2.2.2.1=aL x:=rfl;have e2:x.2.2.2.2.2.1=aJ x:=rfl;rw [e1,e2] at hc;exact ⟨.inr zo,zo,zo,zo,fun k=>absurd k hk',fun k=>absurd k hkd'⟩
 cases h
theorem ES (hx:an x=0) (hy:an y=0) (e:idO x=idO y):stO x=stO y:=by
 have h1:=ir hx;have h2:=ir hy;unfold idO at e;have e1:x.2.1=byO x:=rfl;have e2:y.2.1=byO y:=rfl;rw [e1,e2] at e;have a:x.1=y.1:=zo;have b:byO x=byO y:=zo;unfold stO;rw [a,show x.2.1=y.2.1 from b]
theorem KG (hx:an x=0) (hy:an y=0) (h:idO x<idO y):CLt (stO x) (stO y):=by
 have h1:=ir hx;have h2:=ir hy;unfold idO at h;have e1:x.2.1=byO x:=rfl;have e2:y.2.1=byO y:=rfl;rw [e1,e2] at h;unfold CLt stO;dsimp only;rw [e1,e2];omega
theorem Ca (hx:an x=0):4<=idO x:=by
 have h1:=ir hx;unfold idO;have e1:x.2.1=byO x:=rfl;rw [e1];omega
structure StepOk (A:List OpX) (o:OpX):Prop where
 ok:an o=0
 new:∀x∈A,stO x≠stO o
 refs:RefOk (o::A) o
 all:∀x∈A,an x=0/\RefOk A x
 uniq:∀x∈A,∀y∈A,stO x=stO y->x=y
theorem StepOk.perm (h:StepOk A o) (e:A.Perm B):StepOk B o:=
 ⟨h.ok,fun x hx=>h.new x (e.mem_iff.2 hx),h.refs.mono (fun x hx=>by rcases vT.1 hx with rfl | hx;exact uv;exact ul _ (e.mem_iff.1 hx)),fun x hx=>⟨(h.all x (e.mem_iff.2 hx)).1,(h.all x (e.mem_iff.2 hx)).2.mono (fun y hy=>e.mem_iff.1 hy)⟩,fun x hx y hy=>h.uniq x (e.mem_iff.2 hx) y (e.mem_iff.2 hy)⟩
theorem StepOk.idnew (h:StepOk A o):∀x∈A,idO x≠idO o:=fun x hx e=>h.new x hx (ES (h.all x hx).1 h.ok e)
theorem StepOk.fresh (h:StepOk A o) (e:aL o=idO o):(¬KnownN A (aL o))/\∀x∈A,aL x≠aL o:=by
 have hk:¬KnownN A (aL o):=fun ⟨x,hx,_,_,q⟩=>h.idnew x hx (q.trans e)
 refine ⟨hk,fun x hx q=> ?_⟩
 rcases (h.all x hx).2.1 with ⟨_,k⟩ | k
 ·exact h.idnew x hx (by rw [k,q,e])
 rw [q] at k;exact hk k
theorem AC {A:List OpX} {o:OpX} {nd:Int} (h:KnownN (o::A) nd) (hn:nd≠idO o):KnownN A nd:=by
 obtain ⟨x,hx,q⟩:=h
 rcases vT.1 hx with rfl | hx
 ·exact absurd q.2.2.symm hn
 exact ⟨x,hx,q⟩
theorem sB {A:List OpX} {o:OpX} {nd id:Int} (h:LetterN (o::A) nd id) (hn:id≠idO o):LetterN A nd id:=by
 obtain ⟨x,hx,q⟩:=h
 rcases vT.1 hx with rfl | hx
 ·exact absurd q.2.2.symm hn
 exact ⟨x,hx,q⟩
theorem StepOk.node (h:StepOk A o) (e:aL o≠idO o):KnownN A (aL o):=by
 rcases h.refs.1 with ⟨_,q⟩ | q
 ·exact absurd q.symm e
 exact AC q e
theorem StepOk.letter (h:StepOk A o) (hk:(kdO o=105/\0<aJ o)\/kdO o=100):LetterN A (aL o) (aJ o):=by
 have:=(dG h.ok).2.1;exact sB (h.refs.2.2 hk) zo
theorem StepOk.line (h:StepOk A o) (hk:kdO o=105\/kdO o=100\/kdO o=115):aL o≠idO o:=by
 rcases (dG h.ok).1 with ⟨q,_⟩ | q
 ·rw [q] at hk;rcases hk with k | k | k<;>exact absurd k zu
 omega
theorem StepOk.ungone (h:StepOk A o) (nd:Int):¬dZ A nd (idO o):=fun ⟨x,hx,k,e1,e2⟩=>by
 obtain ⟨y,hy,_,_,q⟩:=(h.all x hx).2.2.2 (.inr k);exact h.idnew y hy (q.trans e2)
theorem gJ :KnownN (o::A) nd↔KnownN A nd\/(kdO o=109/\aL o=nd/\idO o=nd):=by
 constructor
 ·rintro ⟨x,hx,q⟩
  rcases vT.1 hx with rfl | hx
  ·exact .inr q
  exact .inl ⟨x,hx,q⟩
 rintro (⟨x,hx,q⟩ | q)
 ·exact ⟨x,ul _ hx,q⟩
 exact ⟨o,uv,q⟩
theorem lF {S K ys:List OpX} (hW:WellK S) (hS:∀x,x∈S↔x∈K\/x∈ys) (hK:∀x∈K,RefOk K x) (hs:ys.Pairwise (fun a b=>CLt (stO a) (stO b))) (hoff:∀x∈ys,x∉K) {k:Nat} (ho:ys[k]? =some o):StepOk (K++ys.take k) o:=by
 have hoy:o∈ys:=vQ ho;have hkl:=(vL.1 ho).1
 have hsub:∀x,x∈K++ys.take k->x∈S:=fun x hx=>(hS x).2 ((vW.1 hx).imp (fun q=>q) (fun q=>ZB q))
 have hp:=ud.1 hs
 have low:∀(j:Nat) (x y:OpX),ys[j]? =some x->y∈S->idO y<idO x->y∈K++ys.take j:=fun j x y hj hy hlt=>by
  have hxS:x∈S:=(hS x).2 (.inr (vQ hj));have hc:=KG (hW.ok y hy) (hW.ok x hxS) hlt
  rcases (hS y).1 hy with q | q
  ·exact uF _ q
  obtain ⟨i,hi,rfl⟩:=uN q
  have hij:i<j:=by
   rcases ZM i j with h | h | h
   ·exact h
   ·subst h;rw [vN hi] at hj
    cases hj
    exact absurd hc cX
   obtain ⟨hjl,rfl⟩:=vL.1 hj;exact absurd (eC hc (hp j i hjl hi h)) cX
  refine uL _ (vQ (i:=i) ?_);rw [Zq,if_pos hij];exact vN hi
 have refs:∀(j:Nat) (x:OpX),ys[j]? =some x->RefOk (x::(K++ys.take j)) x:=fun j x hj=>by
  have hxS:x∈S:=(hS x).2 (.inr (vQ hj));have hr:=hW.refs x hxS;have he:=dG (hW.ok x hxS)
  have up:∀y,y∈S->idO y<idO x->y∈x::(K++ys.take j):=fun y hy hl=>ul _ (low j x y hj hy hl)
  refine ⟨?_,fun hk=> ?_,fun hk=> ?_⟩
  ·rcases hr.1 with q | ⟨y,hy,q1,q2,q3⟩
   ·exact .inl q
   rcases he.1 with ⟨q,q'⟩ | q
   ·by_cases e:idO x=aL x
    ·exact .inl ⟨q,e⟩
    exact .inr ⟨y,up y hy zo,q1,q2,q3⟩
   exact .inr ⟨y,up y hy zo,q1,q2,q3⟩
  ·rcases hr.2.1 hk with q | q | ⟨y,hy,q1,q2,q3⟩
   ·exact .inl q
   ·exact .inr (.inl q)
   exact .inr (.inr ⟨y,up y hy zo,q1,q2,q3⟩)
  obtain ⟨y,hy,q1,q2,q3⟩:=hr.2.2 hk;exact ⟨y,up y hy zo,q1,q2,q3⟩
 refine ⟨hW.ok o ((hS o).2 (.inr hoy)),fun x hx e=> ?_,refs k o ho,fun x hx=>⟨hW.ok x (hsub x hx),?_⟩,fun x hx y hy e=>hW.stamp (hsub x hx) (hsub y hy) e⟩
 ·rcases vW.1 hx with q | q
  ·have:=hW.stamp (hsub x hx) ((hS o).2 (.inr hoy)) e;subst this;exact hoff x hoy q
  obtain ⟨i,hi,rfl⟩:=uN q
  have hi':i<k/\i<ys.length:=by rw [ug] at hi;omega
  have hc:=hp i k hi'.2 hkl hi'.1;rw [ZG] at e;rw [(vL.1 ho).2,e] at hc;exact cX hc
 rcases vW.1 hx with q | q
 ·exact (hK x q).mono (fun y hy=>uF _ hy)
 obtain ⟨i,hi,e⟩:=uN q
 have hi':i<k/\i<ys.length:=by rw [ug] at hi;omega
 rw [ZG] at e
 have hxi:ys[i]? =some x:=by rw [<-e];exact vN hi'.2
 refine (refs i x hxi).mono (fun y hy=> ?_)
 rcases vT.1 hy with rfl | hy
 ·exact hx
 rcases vW.1 hy with hy | hy
 ·exact uF _ hy
 refine uL _ ?_;have:ys.take i=(ys.take k).take i:=xp;rw [this] at hy;exact ZB hy
end
section
open Go Go.Maps
abbrev my:=Int×Int
abbrev Bl:=my->Option OpX
def noN:Bl:=fun _=>none
def CH (k:my):Value:=.agg #[.int .i64 k.1,.int .i64 k.2]
theorem FW {p q:my} (h:CH p=CH q):p=q:=by
 obtain ⟨a,s⟩:=p;obtain ⟨a',s'⟩:=q;simp [CH] at h;obtain ⟨rfl,rfl⟩:=h;rfl
def aD (x:OpX):Value:=.agg #[.int .i64 x.1,.int .i64 x.2.1,.int .i64 x.2.2.1,.int .u8 (x.2.2.2.1:Int),.int .i64 x.2.2.2.2.1,.int .i64 x.2.2.2.2.2.1,.string x.2.2.2.2.2.2.1,.string x.2.2.2.2.2.2.2]
def aV:OpX:=(0,0,0,0,0,0,⟨#[]⟩,⟨#[]⟩)
def CL (x:OpX):DataW Unit:=.agg [.lit (.int .i64 x.1),.lit (.int .i64 x.2.1),.lit (.int .i64 x.2.2.1),.lit (.int .u8 (x.2.2.2.1:Int)),.lit (.int .i64 x.2.2.2.2.1),.lit (.int .i64 x.2.2.2.2.2.1),.lit (.string x.2.2.2.2.2.2.1.data.toList),.lit (.string x.2.2.2.2.2.2.2.data.toList)]
theorem Fi {p q:OpX} (h:CL p=CL q):p=q:=by
 obtain ⟨t,b,n,k,nd,o,⟨⟨s⟩⟩,⟨⟨v⟩⟩⟩:=p;obtain ⟨t',b',n',k',nd',o',⟨⟨s'⟩⟩,⟨⟨v'⟩⟩⟩:=q;simp [CL] at h;obtain ⟨rfl,rfl,rfl,h4,rfl,rfl,rfl,rfl⟩:=h;obtain rfl:k=k':=zo;rfl
def opL (l:List Value):Option (DataW Unit×List MemPlace):=match l with
 | [.int .i64 t,.int .i64 b,.int .i64 n,.int .u8 k,.int .i64 nd,.int .i64 o,.string s,.string v]=>if 0<=k then some (CL (t,b,n,k.toNat,nd,o,s,v),[]) else none
 | _=>none
def opR (v:Value):Option (DataW Unit×List MemPlace):=match v with
 | .agg cs=>opL cs.toList
 | _=>none
theorem IT (x:OpX):opR (aD x)=some (CL x,[]):=by
 simp [opR,aD,opL]
theorem JH {l:List Value} (h:opL l=some z):∃x:OpX,l=au x/\z=(CL x,[]):=by
 unfold opL at h;split at h
 ·rename_i t b n k nd o s v;split at h
  ·rename_i hk
   cases h
   refine ⟨(t,b,n,k.toNat,nd,o,s,v),?_,rfl⟩;simp [au,Int.toNat_of_nonneg hk]
  cases h
 cases h
theorem Ik {v:Value} (h:opR v=some z):∃x,v=aD x/\z=(CL x,[]):=by
 unfold opR at h;split at h
 ·rename_i cs;obtain ⟨x,e,rfl⟩:=JH h;refine ⟨x,?_,rfl⟩;unfold aD;unfold au at e;rw [<-e]
 cases h
def WfN (k:my):Prop:=(Lit.int .i64 k.1).wf=true/\(Lit.int .i64 k.2).wf=true
def AB (k:my):Lit:=.string (keyBytes [.int .i64 k.1,.int .i64 k.2])
section
variable {P:Program} {K I:TypeId} {f g:Field}
theorem Fk (hu:P.underlying K=some (.struct #[f,g])) (f1:f.type=I) (f2:f.offset=0) (f3:(f.name != "_")=true) (g1:g.type=I) (g2:g.offset=1) (g3:(g.name != "_")=true) (hI:P.underlying I=some (.int .i64)) (cK:P.cellsOf K=2) (cI:P.cellsOf I=1) (hT:P.keyType K=true) (e:Nat) (he:P.types.size=e+1) {k:my} (h:WfN k):keyOf P K (CH k)=some (AB k):=by
 obtain ⟨h1,h2⟩:=h
 have hf:(CH k).formed P K=true:=by simp [Value.formed,CH,hu,cK]
 unfold keyOf;rw [hu];dsimp only;rw [hT,hf];simp only [Bool.and_self,if_true];rw [eN hu,he];simp [CH,Value.cells,cK,cI,f1,f2,f3,g1,g2,g3,gz hI,h1,h2,AB]
end
theorem Io:204<prog.types.size:=of_decide_eq_true zq
theorem Ft:(match prog.underlying 204 with | some (.array _ _) | some (.struct _)=>true | _=>false)=true:=zq
theorem lawN:Keyed prog 204:=Keyed.of_law (deep_law_laid IW (m:=2) zo Io zq Ft)
theorem Kc:prog.keyType 204=true:=zq
theorem Dr:prog.cellsOf 204=2:=zq
theorem oH {k:my} (h:WfN k):keyOf prog 204 (CH k)=some (AB k):=by
 obtain ⟨e,he⟩:=tR;exact Fk underlying204 rfl rfl zu rfl rfl zu underlying3 Dr mO Kc e he h
theorem EW {a b:my} (ha:WfN a) (hb:WfN b) (h:a≠b):AB a≠AB b:=fun e=>h (FW (lawN.inj (oH ha) (by rw [e];exact oH hb)))
theorem Iv {k:my} :WideAt.IsKeyLit (AB k):=trivial
theorem KW {k:my} (h0: -2^63<=k.1) (h1:k.1<2^63) (h2: -2^63<=k.2) (h3:k.2<2^63):WfN k:=⟨Ck h0 h1,Ck h2 h3⟩
def ReadsN (D:DataW Unit) (f:Bl):Prop:=∀k,WfN k->match f k with
 | none=>has D (AB k)=false
 | some c=>∀z,D.atKey (AB k) z=CL c
theorem ReadsN.gone {f:Bl} (h:ReadsN D f) {k:my} (hk:WfN k) (hf:f k=none):has D (AB k)=false:=by
 exact kp1
theorem ReadsN.held {f:Bl} (h:ReadsN D f) {k:my} (hk:WfN k) {c:OpX} (hf:f k=some c) (z:DataW Unit):D.atKey (AB k) z=CL c:=by
 exact ko1
theorem ReadsN.has {D:DataW Unit} {f:Bl} (h:ReadsN D f) {k:my} (hk:WfN k):Maps.has D (AB k)=(f k).isSome:=by
 cases hf:f k with
 | none=>rw [h.gone hk hf];rfl
 | some p=>rw [has_true_of_atKey (h.held hk hf)];rfl
theorem ReadsN.at {f:Bl} (h:ReadsN D f) {k:my} (hk:WfN k):D.atKey (AB k) (CL aV)=CL ((f k).getD aV):=by
 cases hf:f k with
 | none=>rw [atKey_of_not_has (h.gone hk hf)];rfl
 | some p=>rw [h.held hk hf];rfl
theorem Bc {f:Bl} (h:ReadsN D f) (hD:IsMap D) {k:my} (hk:WfN k) (c:OpX):ReadsN (D.put (AB k) (CL c)) (fun x=>if x=k then some c else f x):=by
 intro x hx;dsimp only;by_cases e:x=k
 ·subst e;rw [if_pos rfl]
  exact fun z=>atKey_put_same hD Iv _ _
 rw [if_neg e]
 cases hf:f x with
 | none=>rw [has_put_other (EW hx hk e)];exact h.gone hx hf
 | some q=>intro z;rw [atKey_put_other (EW hx hk e)];exact h.held hx hf z
def NMapAt (w:World) (b n:Nat) (f:Bl):Prop:=∃D,w.ownsMap prog 204 opR b n D/\ReadsN D f
theorem NMapAt.lt {w:World} {b n:Nat} {f:Bl} (h:NMapAt w b n f):b<w.heap.size:=by
 obtain ⟨D,h,_⟩:=h;exact h.lt
theorem NMapAt.same {w':World} {b:Nat} {f:Bl} (h:NMapAt w b n f) (e:w'.heap[b]? =w.heap[b]?):NMapAt w' b n f:=by
 exact kq7
theorem tu (w:World):NMapAt (w.alloc (.map #[] 0)) w.heap.size 0 noN:=
 ⟨_,World.ownsMap_made w prog 204 opR,fun _ _=>rfl⟩
theorem LV (w:World):(zeroValue 38).run prog w= .ok (aD aV) w:=zeroValue38 w
theorem NMapAt.look {b:Nat} {f:Bl} (h:NMapAt w b n f) {k:my} (hk:WfN k):
  (Instr.lookup 201 (.map (some b)) (CH k) true).run prog w= .ok (.tuple #[aD ((f k).getD aV),.bool (f k).isSome]) w:=by
 obtain ⟨D,h,r⟩:=h;obtain ⟨v,ps,hrun,hv⟩:=h.look_ok lawN underlying201 (LV w) (IT aV) (oH hk);obtain ⟨p,rfl,hp⟩:=Ik hv;rw [r.at hk,Prod.mk.injEq] at hp;rw [hrun,r.has hk,Fi hp.1]
theorem NMapAt.store {w:World} {b n:Nat} {f:Bl} (h:NMapAt w b n f) (hn:n<maxLen) {k:my} (hk:WfN k) (c:OpX):
  ∃w',(Instr.mapUpdate 201 (.map (some b)) (CH k) (aD c)).run prog w= .ok () w'/\NMapAt w' b (n+1) (fun x=>if x=k then some c else f x)/\w.mapTurned w' b:=by
 obtain ⟨D,h,r⟩:=h;obtain ⟨w',hrun,h',ht⟩:=h.store lawN underlying201 hn (oH hk) (IT c);exact ⟨w',hrun,⟨_,h',Bc r h.isMap hk c⟩,ht⟩
