import Derived.Test.YtehighgebbdenaaGreatDoorMacB
import Derived.Test.YtehighgebbdenaaGreatDoorProg
import Derived.DeepKeys4
import Derived.Lib.Split
import Derived.Lib.Join
import Derived.WalkSpells
import Derived.LaidEql
import Derived.Lib.AppendIntMem
set_option maxRecDepth 100000
set_option maxHeartbeats 64000000
namespace Go.Proofs.YtehighgebbdenaaGreatDoor
open Go.Proofs.Tryz
variable {name value:ByteArray} {D:DataW Unit} {z:DataW Unit×List MemPlace} {m t:Int} {a:Int×Int} {l:Lit} {b g kd n o:Nat} {v:Value} {w w':World}
section
abbrev CLt (a b:Int×Int):Prop:=a.1<b.1\/(a.1=b.1/\a.2<b.2)
theorem cX :¬CLt a a:=by unfold CLt;omega
theorem eC {b c:Int×Int} (h:CLt a b) (k:CLt b c):CLt a c:=by unfold CLt at*;omega
theorem DF {b:Int×Int} (h:a≠b):CLt a b\/CLt b a:=by
 unfold CLt
 have:a.1≠b.1\/a.2≠b.2:=by
  rcases a with ⟨x,y⟩;rcases b with ⟨z,t⟩;simp only [ne_eq,Prod.mk.injEq] at h;simp only;omega
 omega
theorem La {b:Int×Int} (h:¬CLt a b):b=a\/CLt b a:=by
 by_cases e:a=b
 ·exact .inl e.symm
 rcases DF e with h' | h'
 ·exact absurd h' h
 exact .inr h'
abbrev bU:=Int×ByteArray
abbrev aG:=ByteArray×(Int×Int)
abbrev cA:=bU->Option aG
def noC:cA:=fun _=>none
def fC (f:cA) (k:bU) (c:aG):Bool:=match f k with
 | none=>true
 | some o=>decide (CLt o.2 c.2)
def lC (f:cA) (m:bU×aG):cA:=if fC f m.1 m.2 then fun k=>if k=m.1 then some m.2 else f k else f
def lH (l:List (bU×aG)) (f:cA):cA:=l.foldl lC f
theorem nT (l:List (bU×aG)) (m:bU×aG) (f:cA):lH (l++ [m]) f=lC (lH l f) m:=by simp [lH]
theorem kU {f:cA} {m:bU×aG} {k:bU} (h:k≠m.1):lC f m k=f k:=by
 unfold lC;split
 ·exact if_neg h
 rfl
theorem pC {f:cA} {m:bU×aG} (h:f m.1=none):lC f m m.1=some m.2:=by
 unfold lC fC;rw [h];simp
theorem rq {f:cA} {m:bU×aG} {o:aG} (h:f m.1=some o):lC f m m.1=if CLt o.2 m.2.2 then some m.2 else some o:=by
 unfold lC fC;rw [h];by_cases k:CLt o.2 m.2.2
 ·simp [k]
 simp [k,h]
def Gt (l:List (bU×aG)) (k:bU) (r:Option aG):Prop:=match r with
 | none=>∀c,(k,c)∉l
 | some c=>(k,c)∈l/\∀d,(k,d)∈l->¬CLt c.2 d.2
theorem kT (l:List (bU×aG)) (k:bU):Gt l k (lH l noC k):=by
 have key:∀(n:Nat) (l:List (bU×aG)),l.length=n->Gt l k (lH l noC k):=by
  intro n
  induction n with
  | zero=>
   intro l hn;obtain rfl:=uh.1 hn
   exact fun c hc=>by simp at hc
  | succ n ih=>
   intro l hn
   obtain ⟨s,m,rfl⟩:∃s m,l=s++ [m]:=by
    refine ⟨l.dropLast,l.getLast (by intro e;rw [e] at hn;cases hn),(List.dropLast_concat_getLast _).symm⟩
   have h:=ih s xe;rw [nT];by_cases hk:k=m.1
   ·subst hk
    cases hf:lH s noC m.1 with
    | none=>
     rw [hf] at h;rw [pC hf];refine ⟨zv,fun d hd=> ?_⟩
     rcases vW.1 hd with hd | hd
     ·exact absurd hd (h d)
     exact kn1
    | some o=>
     rw [hf] at h;rw [rq hf];by_cases hlt:CLt o.2 m.2.2
     ·rw [if_pos hlt];refine ⟨zv,fun d hd=> ?_⟩
      rcases vW.1 hd with hd | hd
      ·exact fun hc=>h.2 d hd (eC hlt hc)
      exact kn1
     rw [if_neg hlt];refine ⟨uF _ h.1,fun d hd=> ?_⟩
     rcases vW.1 hd with hd | hd
     ·exact h.2 d hd
     have e:(m.1,d)=m:=by simpa using hd
     have e2:d=m.2:=jx;rw [e2];exact hlt
   rw [kU hk]
   cases hf:lH s noC k with
   | none=>
    rw [hf] at h;intro c hc
    rcases vW.1 hc with hc | hc
    ·exact h c hc
    have e:(k,c)=m:=by simpa using hc
    exact hk jx
   | some o=>
    rw [hf] at h;refine ⟨uF _ h.1,fun d hd=> ?_⟩
    rcases vW.1 hd with hd | hd
    ·exact h.2 d hd
    have e:(k,d)=m:=by simpa using hd
    exact absurd jx hk
 exact key _ l rfl
def Lz (l:List (bU×aG)):Prop:=∀k c d,(k,c)∈l->(k,d)∈l->c.2=d.2->c=d
theorem CD {l r:List (bU×aG)} {k:bU} {x y:Option aG} (hm:∀m,m∈l↔m∈r) (h1:Lz l) (hx:Gt l k x) (hy:Gt r k y):x=y:=by
 cases x with
 | none=>
  cases y with
  | none=>rfl
  | some d=>exact absurd ((hm _).2 hy.1) (hx d)
 | some c=>
  cases y with
  | none=>exact absurd ((hm _).1 hx.1) (hy c)
  | some d=>
   have a1:=hx.2 d ((hm _).2 hy.1);have a2:=hy.2 c ((hm _).1 hx.1)
   rcases La a1 with e | e
   ·rw [h1 k c d hx.1 ((hm _).2 hy.1) e.symm]
   exact absurd e a2
theorem pT {l r:List (bU×aG)} (hm:∀m,m∈l↔m∈r) (h1:Lz l):lH l noC=lH r noC:=by
 funext k;exact CD hm h1 (kT l k) (kT r k)
end
section
abbrev KLt (a b:bU):Prop:=a.1<b.1\/(a.1=b.1/\a.2.data.toList<b.2.data.toList)
theorem wa {a b:ByteArray} (h:a.data.toList=b.data.toList):a=b:=by
 rcases a with ⟨⟨a⟩⟩;rcases b with ⟨⟨b⟩⟩;simp only at h;rw [h]
theorem ma {a b:List UInt8} (h:a≠b):a<b\/b<a:=by
 by_cases h1:a<b
 ·exact .inl h1
 by_cases h2:b<a
 ·exact .inr h2
 exact absurd (List.le_antisymm (List.not_lt.1 h2) (List.not_lt.1 h1)) h
theorem eG {a:bU} :¬KLt a a:=by
 rintro (h | ⟨_,h⟩)
 ·omega
 exact List.lt_irrefl _ h
theorem io {a b c:bU} (h:KLt a b) (k:KLt b c):KLt a c:=by
 rcases h with h | ⟨h1,h2⟩
 ·rcases k with k | ⟨k1,_⟩
  ·exact .inl zo
  exact .inl zo
 rcases k with k | ⟨k1,k2⟩
 ·exact .inl zo
 exact .inr ⟨zo,List.lt_trans h2 k2⟩
theorem mQ {a b:bU} (h:a≠b):KLt a b\/KLt b a:=by
 by_cases h1:a.1=b.1
 ·have h2:a.2.data.toList≠b.2.data.toList:=fun e=>h (Prod.ext h1 (wa e))
  rcases ma h2 with k | k
  ·exact .inl (.inr ⟨h1,k⟩)
  exact .inr (.inr ⟨h1.symm,k⟩)
 by_cases h2:a.1<b.1
 ·exact .inl (.inl h2)
 exact .inr (.inl zo)
theorem fH {α:Type} {R:α->α->Prop} (irr:∀a,¬R a a) (tr:∀a b c,R a b->R b c->R a c):∀ {L M:List α},L.Pairwise R->M.Pairwise R->(∀p,p∈L↔p∈M)->L=M
 | [],[],_,_,_=>rfl
 | [],b::r,_,_,h=>by have:=(h b).2 zv;simp at this
 | a::r,[],_,_,h=>by have:=(h a).1 zv;simp at this
 | a::r,b::s,hl,hm,h=>by
  obtain ⟨h1,h2⟩:=uC.1 hl;obtain ⟨k1,k2⟩:=uC.1 hm
  have e:a=b:=by
   rcases vT.1 ((h a).1 zv) with e | ha
   ·exact e
   rcases vT.1 ((h b).2 zv) with e | hb
   ·exact e.symm
   exact absurd (tr _ _ _ (h1 b hb) (k1 a ha)) (irr a)
  subst e;rw [fH irr tr h2 k2 (fun p=> ?_)];constructor
  ·intro hp
   rcases vT.1 ((h p).1 (by simp [hp])) with e | hp'
   ·subst e;exact absurd (h1 p hp) (irr p)
   exact hp'
  intro hp
  rcases vT.1 ((h p).2 (by simp [hp])) with e | hp'
  ·subst e;exact absurd (k1 p hp) (irr p)
  exact hp'
theorem pB {f:cA} {m:bU×aG} (h:fC f m.1 m.2=true):lC f m=fun k=>if k=m.1 then some m.2 else f k:=by unfold lC;rw [if_pos h]
theorem Al {f:cA} {m:bU×aG} (h:fC f m.1 m.2=false):lC f m=f:=by unfold lC;rw [if_neg (by rw [h];simp)]
abbrev Mrk:=Int×ByteArray×ByteArray
abbrev im (m:Mrk):bU:=(m.1,m.2.1)
structure IsMarks (f:cA) (L:List Mrk):Prop where
 rise:L.Pairwise (fun a b=>KLt (im a) (im b))
 mem:∀p:Mrk,p∈L↔p.2.2.size≠0/\∃s,f (im p)=some (p.2.2,s)
theorem IsMarks.unique {f:cA} {L M:List Mrk} (h:IsMarks f L) (k:IsMarks f M):L=M:=
 fH (R:=fun a b=>KLt (im a) (im b)) (fun _=>eG) (fun _ _ _=>io) h.rise k.rise (fun p=>(h.mem p).trans (k.mem p).symm)
structure Lists (f:cA) (L:List (bU×aG)):Prop where
 rise:L.Pairwise (fun a b=>KLt a.1 b.1)
 mem:∀k c,(k,c)∈L↔f k=some c
theorem BR:Lists noC []:=⟨List.Pairwise.nil,fun k c=>by simp [noC]⟩
def Hd (m:bU×aG):Mrk:=(m.1.1,m.1.2,m.2.1)
def It (m:bU×aG):Bool:=decide (m.2.1.size≠0)
def shown (L:List (bU×aG)):List Mrk:=(L.filter It).map Hd
theorem Lists.shown {f:cA} {L:List (bU×aG)} (h:Lists f L):IsMarks f (shown L):=by
 refine ⟨?_,fun p=> ?_⟩
 ·unfold Go.Proofs.YtehighgebbdenaaGreatDoor.shown;rw [ZA];exact (h.rise.filter _).imp (fun {a b} k=>k)
 unfold Go.Proofs.YtehighgebbdenaaGreatDoor.shown;rw [ut];constructor
 ·rintro ⟨m,hm,rfl⟩;obtain ⟨h1,h2⟩:=Zy.1 hm;exact ⟨of_decide_eq_true h2,m.2.2,(h.mem m.1 m.2).1 h1⟩
 rintro ⟨h1,s,h2⟩;exact ⟨(im p,(p.2.2,s)),Zy.2 ⟨(h.mem _ _).2 h2,decide_eq_true h1⟩,rfl⟩
def bG (k:bU):List (bU×aG)->Nat
 | []=>0
 | m::r=>if KLt m.1 k then bG k r+1 else 0
theorem oR (k:bU):∀L:List (bU×aG),bG k L<=L.length
 | []=>vM _
 | m::r=>by
  unfold bG;split
  ·have:=oR k r;simp;exact this
  exact vV _
theorem gp (k:bU):∀(L:List (bU×aG)) (j:Nat) (m:bU×aG),j<bG k L->L[j]? =some m->KLt m.1 k
 | [],j,m,h,_=>by simp [bG] at h
 | x::r,j,m,h,e=>by
  unfold bG at h;split at h
  ·rename_i hx
   cases j with
   | zero=>simp only [List.getElem?_cons_zero,Option.some.injEq] at e;subst e;exact hx
   | succ j=>exact gp k r j m zo yD
  omega
theorem ii (k:bU):∀(L:List (bU×aG)) (m:bU×aG),L[bG k L]? =some m->¬KLt m.1 k
 | [],m,e=>qt
 | x::r,m,e=>by
  unfold bG at e;split at e
  ·exact ii k r m yD
  rename_i hx;simp only [List.getElem?_cons_zero,Option.some.injEq] at e;subst e;exact hx
theorem oC (k:bU) (L:List (bU×aG)) (i:Nat) (hi:i<=L.length) (h1:∀j m,j<i->L[j]? =some m->KLt m.1 k) (h2:∀m,L[i]? =some m->¬KLt m.1 k):bG k L=i:=by
 have hle:=oR k L
 rcases ZM (bG k L) i with h | h | h
 ·have e:=vN (l:=L) (i:=bG k L) zo;exact absurd (h1 _ _ h e) (ii k L _ e)
 ·exact h
 have e:=vN (l:=L) (i:=i) zo;exact absurd (gp k L i _ h e) (h2 _ e)
def rZ (L:List (bU×aG)) (m:bU×aG):List (bU×aG):=match L[bG m.1 L]? with
 | none=>L.take (bG m.1 L)++m::L.drop (bG m.1 L)
 | some o=>if o.1=m.1 then (if CLt o.2.2 m.2.2 then L.set (bG m.1 L) m else L) else L.take (bG m.1 L)++m::L.drop (bG m.1 L)
def kW (L:List (bU×aG)) (m:bU×aG):Bool:=match L[bG m.1 L]? with
 | none=>true
 | some o=>if o.1=m.1 then decide (CLt o.2.2 m.2.2) else true
theorem Lists.at_spot {f:cA} {L:List (bU×aG)} (h:Lists f L) {k:bU} {c:aG} (hf:f k=some c):L[bG k L]? =some (k,c):=by
 obtain ⟨i,hi,e⟩:=uN ((h.mem k c).2 hf)
 have he:L[i]? =some (k,c):=by rw [vN hi,e]
 rw [oC k L i zo (fun j m hj hm=> ?_) (fun m hm=> ?_)]
 ·exact he
 ·have hjl:j<L.length:=by omega
  rw [vN hjl] at hm
  cases hm
  have:=ud.1 h.rise j i hjl hi hj;rwa [e] at this
 rw [he] at hm
 cases hm
 exact eG
theorem Lists.laid {f:cA} {L:List (bU×aG)} (h:Lists f L) (m:bU×aG):kW L m=fC f m.1 m.2:=by
 unfold kW fC
 cases hf:f m.1 with
 | some o=>
  rw [h.at_spot hf];simp
 | none=>
  cases hs:L[bG m.1 L]? with
  | none=>rfl
  | some o=>
   have hne:o.1≠m.1:=fun e=>by
    exact kp4
   simp [hne]
theorem Il {α:Type} (L:List α) (i:Nat) (x p:α):p∈L.take i++x::L.drop i↔p=x\/p∈L:=by
 rw [vW,vT];constructor
 ·rintro (h | h | h)
  ·exact .inr (ZB h)
  ·exact .inl h
  exact .inr (Zr h)
 rintro (h | h)
 ·exact .inr (.inl h)
 rw [<-ur i L] at h
 rcases vW.1 h with h | h
 ·exact .inl h
 exact .inr (.inr h)
theorem Lists.fresh {f:cA} {L:List (bU×aG)} (h:Lists f L) {m:bU×aG} (hf:f m.1=none):Lists (lC f m) (L.take (bG m.1 L)++m::L.drop (bG m.1 L)):=by
 refine ⟨?_,fun k c=> ?_⟩
 ·have hr:=h.rise;rw [<-ur (bG m.1 L) L] at hr;obtain ⟨r1,r2,r3⟩:=uY.1 hr;refine uY.2 ⟨r1,uC.2 ⟨fun b hb=> ?_,r2⟩,fun a ha b hb=> ?_⟩
  ·obtain ⟨j,hj,rfl⟩:=uN hb;rw [uy] at hj;rw [List.getElem_drop];have h0:=vN (l:=L) (i:=bG m.1 L) zo;have hns:=ii m.1 L _ h0
   have hne:L[bG m.1 L].1≠m.1:=fun e=>by
    have:=(h.mem L[bG m.1 L].1 L[bG m.1 L].2).1 (uR _);rw [e,hf] at this
    cases this
   have hgt:KLt m.1 L[bG m.1 L].1:=by
    rcases mQ hne with q | q
    ·exact absurd q hns
    exact q
   cases j with
   | zero=>exact hgt
   | succ j=>exact io hgt (ud.1 h.rise (bG m.1 L) (bG m.1 L+(j+1)) zo zo zo)
  obtain ⟨j,hj,rfl⟩:=uN ha;rw [ug] at hj
  have hjm:KLt (L.take (bG m.1 L))[j].1 m.1:=by
   rw [ZG];exact gp m.1 L j _ zo (vN zo)
  rcases vT.1 hb with e | hb
  ·rw [e];exact hjm
  exact r3 _ (uR _) b hb
 rw [Il];by_cases hk:k=m.1
 ·subst hk;rw [pC hf];constructor
  ·rintro (e | e)
   ·rw [<-e]
   have:=(h.mem m.1 c).1 e;rw [hf] at this
   cases this
  intro e
  cases e
  exact .inl rfl
 rw [kU hk,h.mem];constructor
 ·rintro (e | e)
  ·exact absurd jx hk
  exact e
 exact .inr
theorem Lists.newer {f:cA} {L:List (bU×aG)} (h:Lists f L) {m:bU×aG} {o:aG} (hf:f m.1=some o) (hlt:CLt o.2 m.2.2):Lists (lC f m) (L.set (bG m.1 L) m):=by
 have hs:=h.at_spot hf;have hl:bG m.1 L<L.length:=(vL.1 hs).1
 have he:L[bG m.1 L]=(m.1,o):=by rw [vN hl] at hs;exact Option.some.inj hs
 obtain ⟨T,hT⟩:=zc (L.take (bG m.1 L));obtain ⟨D,hD⟩:=zc (L.drop (bG m.1 L+1))
 have e1:L=T++(m.1,o)::D:=by
  rw [hT,hD,<-he,<-uQ hl,ur]
 have e2:L.set (bG m.1 L) m=T++m::D:=by rw [List.set_eq_take_append_cons_drop,if_pos hl,hT,hD]
 rw [e2];have hr:=h.rise;rw [e1] at hr;obtain ⟨r1,r2,r3⟩:=uY.1 hr;obtain ⟨r4,r5⟩:=uC.1 r2
 have hm:∀k c,(k,c)∈T++(m.1,o)::D↔f k=some c:=by rw [<-e1];exact h.mem
 refine ⟨uY.2 ⟨r1,uC.2 ⟨fun b hb=>r4 b hb,r5⟩,fun a ha b hb=> ?_⟩,fun k c=> ?_⟩
 ·rcases vT.1 hb with e | hb
  ·rw [e];exact r3 a ha (m.1,o) zv
  exact r3 a ha b (by simp [hb])
 rw [vW,vT];by_cases hk:k=m.1
 ·subst hk;rw [rq hf,if_pos hlt];constructor
  ·rintro (e | e | e)
   ·exact absurd (r3 _ e (m.1,o) zv) eG
   ·rw [<-e]
   exact absurd (r4 _ e) eG
  intro e
  cases e
  exact .inr (.inl rfl)
 rw [kU hk,<-hm,vW,vT];constructor
 ·rintro (e | e | e)
  ·exact .inl e
  ·exact absurd jx hk
  exact .inr (.inr e)
 rintro (e | e | e)
 ·exact .inl e
 ·exact absurd (Prod.mk.inj e).1 hk
 exact .inr (.inr e)
theorem Lists.lay {f:cA} {L:List (bU×aG)} (h:Lists f L) (m:bU×aG):Lists (lC f m) (rZ L m):=by
 unfold rZ
 cases hf:f m.1 with
 | some o=>
  rw [h.at_spot hf];dsimp only;rw [if_pos rfl];split
  ·rename_i hlt;exact h.newer hf hlt
  rename_i hlt
  have:lC f m=f:=by unfold lC fC;rw [hf];simp [hlt]
  rw [this];exact h
 | none=>
  cases hs:L[bG m.1 L]? with
  | none=>exact h.fresh hf
  | some o=>
   have hne:o.1≠m.1:=fun e=>by
    exact kp4
   dsimp only;rw [if_neg hne];exact h.fresh hf
theorem Fd (L:List (bU×aG)) (m:bU×aG):(rZ L m).length<=L.length+1:=by
 have:=oR m.1 L;unfold rZ;split
 ·simp;omega
 split
 ·split
  ·simp
  omega
 simp;omega
theorem Lists.first {f:cA} {L:List (bU×aG)} (h:Lists f L) {i:Nat} {m:bU×aG} (hi:L[i]? =some m):f m.1=some m.2:=(h.mem m.1 m.2).1 (vQ hi)
end
section
open Go Go.Maps
def od (k:bU):Value:=.agg #[.int .i64 k.1,.string k.2]
theorem wS {p q:bU} (h:od p=od q):p=q:=by
 obtain ⟨a,s⟩:=p;obtain ⟨a',s'⟩:=q;simp [od] at h;obtain ⟨rfl,rfl⟩:=h;rfl
def sn (c:aG):Value:=.agg #[.string c.1,.int .i64 c.2.1,.int .i64 c.2.2]
theorem Fo {p q:aG} (h:sn p=sn q):p=q:=by
 obtain ⟨s,a,b⟩:=p;obtain ⟨s',a',b'⟩:=q;simp [sn] at h;exact kr7
def Ag:aG:=(⟨#[]⟩,0,0)
def wA (c:aG):DataW Unit:=.agg [.lit (.string c.1.data.toList),.lit (.int .i64 c.2.1),.lit (.int .i64 c.2.2)]
theorem AK {p q:aG} (h:wA p=wA q):p=q:=by
 obtain ⟨⟨⟨s⟩⟩,a,b⟩:=p;obtain ⟨⟨⟨s'⟩⟩,a',b'⟩:=q;simp [wA] at h;exact kr7
def Lk (l:List Value):Option (DataW Unit×List MemPlace):=match l with
 | [.string s,.int .i64 a,.int .i64 b]=>some (wA (s,a,b),[])
 | _=>none
def Bh (v:Value):Option (DataW Unit×List MemPlace):=match v with
 | .agg cs=>Lk cs.toList
 | _=>none
theorem DZ (c:aG):Bh (sn c)=some (wA c,[]):=rfl
theorem Ht {l:List Value} (h:Lk l=some z):∃c:aG,l= [.string c.1,.int .i64 c.2.1,.int .i64 c.2.2]/\z=(wA c,[]):=by
 unfold Lk at h;split at h
 ·rename_i s a b
  cases h
  exact ⟨(s,a,b),rfl,rfl⟩
 cases h
theorem no (h:Bh v=some z):∃c,v=sn c/\z=(wA c,[]):=by
 unfold Bh at h;split at h
 ·rename_i cs;obtain ⟨c,e,rfl⟩:=Ht h;refine ⟨c,?_,rfl⟩;unfold sn;rw [<-e]
 cases h
theorem pH:∀(x y:List UInt8),Op.bytesLess x y=decide (x<y)
 | [],[]=>vw
 | _::_,[]=>vw
 | [],_::_=>vw
 | a::x,b::y=>by
  rw [Op.bytesLess,pH x y];simp only [List.cons_lt_cons_iff];by_cases h1:a<b<;>by_cases h2:a=b<;>by_cases h3:x<y<;>simp [h1,h2,h3]
theorem gQ (a b:ByteArray):Op.bytesLess a.toList b.toList=decide (a.data.toList<b.data.toList):=by
 rw [pH,uH,uH]
def WfK (k:bU):Prop:=(Lit.int .i64 k.1).wf=true/\k.2.size<=maxLen
def eH (k:bU):Lit:=.string (keyBytes [.int .i64 k.1,.string k.2.data.toList])
section
variable {P:Program} {K I S:TypeId} {f g:Field}
theorem eN {fs:Array Field} (hu:P.underlying K=some (.struct fs)) (d:Nat) (cs:List Value):P.keyLits (d+1) K cs=if cs.length=P.cellsOf K/\fs.all (·.name != "_")=true then (fs.toList.mapM fun f=>P.keyLits d f.type ((cs.drop f.offset).take (P.cellsOf f.type))).map List.flatten else none:=by
 conv=>lhs;unfold Program.keyLits
 simp only [hu]
theorem gz (hI:P.underlying I=some (.int .i64)) (d:Nat) (v:Value):P.keyLits (d+1) I [v]=match v with | .int .i64 n=>if (Lit.int .i64 n).wf=true then some [.int .i64 n] else none | _=>none:=by
 conv=>lhs;unfold Program.keyLits
 simp only [hI]
 cases v<;>try rfl
 rename_i q n
 cases q<;>simp
theorem lO (hS:P.underlying S=some .string) (d:Nat) (v:Value):P.keyLits (d+1) S [v]=match v with | .string s=>if s.size<=maxLen then some [.string s.data.toList] else none | _=>none:=by
 conv=>lhs;unfold Program.keyLits
 simp only [hS]
 cases v<;>rfl
theorem Jd (hu:P.underlying K=some (.struct #[f,g])) (f1:f.type=I) (f2:f.offset=0) (f3:(f.name != "_")=true) (g1:g.type=S) (g2:g.offset=1) (g3:(g.name != "_")=true) (hI:P.underlying I=some (.int .i64)) (hS:P.underlying S=some .string) (cK:P.cellsOf K=2) (cI:P.cellsOf I=1) (cS:P.cellsOf S=1) (hT:P.keyType K=true) (e:Nat) (he:P.types.size=e+1) {k:bU} (h:WfK k):keyOf P K (od k)=some (eH k):=by
 obtain ⟨h1,h2⟩:=h
 have hf:(od k).formed P K=true:=by simp [Value.formed,od,hu,cK]
 unfold keyOf;rw [hu];dsimp only;rw [hT,hf];simp only [Bool.and_self,if_true];rw [eN hu,he];simp [od,Value.cells,cK,cI,cS,f1,f2,f3,g1,g2,g3,gz hI,lO hS,h1,h2,eH]
theorem FD (hw:(match P.underlying K with | some (.array _ _) | some (.struct _)=>true | _=>false)=true) (hu:P.underlying K=some (.struct #[f,g])) (f1:f.type=I) (f2:f.offset=0) (g1:g.type=S) (g2:g.offset=1) (hI:P.underlying I=some (.int .i64)) (hS:P.underlying S=some .string) (cK:P.cellsOf K=2) (cI:P.cellsOf I=1) (cS:P.cellsOf S=1) (e:Nat) (he:P.types.size=e+1) (h:keyOf P K v=some l):∃k,WfK k/\v=od k/\l=eH k:=by
 obtain ⟨xs,L,rfl,h1,rfl⟩:=keyOf_top hw h;rw [eN hu,he] at h1;split at h1
 ·rename_i hc
  obtain ⟨a,b,hx⟩:∃a b,xs.toList= [a,b]:=by
   rw [cK] at hc;have h2:=hc.1
   match hl:xs.toList,h2 with
   | [a,b],_=>exact ⟨a,b,rfl⟩
  rw [hx] at h1;simp only [List.mapM_cons,List.mapM_nil,f1,f2,g1,g2,cI,cS,List.drop_zero,List.take,List.drop,Zj,gz hI,lO hS] at h1
  cases a<;>simp at h1
  rename_i q n
  cases q<;>simp at h1
  cases b<;>simp at h1
  rename_i s;by_cases hwf:(Lit.int .i64 n).wf=true
  ·by_cases hsz:s.size<=maxLen
   ·simp [hwf,hsz] at h1;subst h1;refine ⟨(n,s),⟨hwf,hsz⟩,?_,rfl⟩;unfold od;congr 1;rw [<-Array.toList_inj,hx]
   simp [hwf,hsz] at h1
  simp [hwf] at h1
 cases h1
end
theorem Hc:234<prog.types.size:=of_decide_eq_true zq
theorem Eu:(match prog.underlying 234 with | some (.array _ _) | some (.struct _)=>true | _=>false)=true:=zq
theorem IW:laidOutB prog=true:=zq
theorem lawK:Keyed prog 234:=Keyed.of_law (deep_law_laid IW (m:=2) zo Hc zq Eu)
theorem Lq:prog.keyType 234=true:=zq
theorem wW:prog.cellsOf 234=2:=zq
theorem mO:prog.cellsOf 3=1:=zq
theorem pt:prog.cellsOf 9=1:=zq
theorem tR:∃e,prog.types.size=e+1:=Nat.exists_eq_succ_of_ne_zero (by have:=Hc;omega)
theorem wH {k:bU} (h:WfK k):keyOf prog 234 (od k)=some (eH k):=by
 obtain ⟨e,he⟩:=tR;exact Jd underlying234 rfl rfl zu rfl rfl zu underlying3 underlying9 wW mO pt Lq e he h
theorem EE (h:keyOf prog 234 v=some l):∃k,WfK k/\v=od k/\l=eH k:=by
 obtain ⟨e,he⟩:=tR;exact FD Eu underlying234 rfl rfl rfl rfl underlying3 underlying9 wW mO pt e he h
theorem sC {a b:bU} (ha:WfK a) (hb:WfK b) (h:a≠b):eH a≠eH b:=fun e=>h (wS (lawK.inj (wH ha) (by rw [e];exact wH hb)))
theorem CC {k:bU} :WideAt.IsKeyLit (eH k):=trivial
theorem mV {a b:bU} (ha:WfK a) (hb:WfK b):Lit.sameKey (eH a) (eH b)=decide (a=b):=by
 by_cases h:a=b
 ·subst h;rw [WideAt.sameKey_self CC];simp
 rw [sameKey_ne (sC ha hb h)];simp [h]
theorem Ck {k:Int} (h0: -2^63<=k) (h1:k<2^63):(Lit.int .i64 k).wf=true:=by
 exact kl0
theorem KK {k:bU} (h0: -2^63<=k.1) (h1:k.1<2^63) (h2:k.2.size<=1000000):WfK k:=⟨Ck h0 h1,zH⟩
def ReadsC (D:DataW Unit) (f:cA):Prop:=∀k,WfK k->match f k with
 | none=>has D (eH k)=false
 | some c=>∀z,D.atKey (eH k) z=wA c
theorem ReadsC.gone {f:cA} (h:ReadsC D f) {k:bU} (hk:WfK k) (hf:f k=none):has D (eH k)=false:=by
 exact kp1
theorem ReadsC.held {f:cA} (h:ReadsC D f) {k:bU} (hk:WfK k) {c:aG} (hf:f k=some c) (z:DataW Unit):D.atKey (eH k) z=wA c:=by
 exact ko1
theorem ReadsC.has {D:DataW Unit} {f:cA} (h:ReadsC D f) {k:bU} (hk:WfK k):Maps.has D (eH k)=(f k).isSome:=by
 cases hf:f k with
 | none=>rw [h.gone hk hf];rfl
 | some p=>rw [has_true_of_atKey (h.held hk hf)];rfl
theorem ReadsC.at {f:cA} (h:ReadsC D f) {k:bU} (hk:WfK k):D.atKey (eH k) (wA Ag)=wA ((f k).getD Ag):=by
 cases hf:f k with
 | none=>rw [atKey_of_not_has (h.gone hk hf)];rfl
 | some p=>rw [h.held hk hf];rfl
theorem ReadsC.got {f:cA} (h:ReadsC D f) {k:bU} {c:aG} (hk:WfK k) (hat:∀z,D.atKey (eH k) z=wA c):f k=some c:=by
 have hh:=h.has hk;rw [has_true_of_atKey hat] at hh
 cases hf:f k with
 | none=>rw [hf] at hh;cases hh
 | some p=>
  have:=h.held hk hf .nil;rw [hat] at this;rw [AK this]
theorem Bt {f:cA} (h:ReadsC D f) (hD:IsMap D) {k:bU} (hk:WfK k) (c:aG):ReadsC (D.put (eH k) (wA c)) (fun x=>if x=k then some c else f x):=by
 intro x hx;dsimp only;by_cases e:x=k
 ·subst e;rw [if_pos rfl]
  exact fun z=>atKey_put_same hD CC _ _
 rw [if_neg e]
 cases hf:f x with
 | none=>rw [has_put_other (sC hx hk e)];exact h.gone hx hf
 | some q=>intro z;rw [atKey_put_other (sC hx hk e)];exact h.held hx hf z
def GoodC (f:cA):Prop:=∀k c,f k=some c->WfK k
theorem Bd:GoodC noC:=fun k c h=>qF
theorem GoodC.put {f:cA} (h:GoodC f) {k:bU} (hk:WfK k) (c:aG):GoodC (fun x=>if x=k then some c else f x):=by
 intro x d hx;dsimp only at hx;split at hx
 ·rename_i e;rw [e];exact hk
 exact h x d hx
structure CMapAt (w:World) (b n:Nat) (f:cA):Prop where
 reads:∃D,w.ownsMap prog 234 Bh b n D/\ReadsC D f
 good:GoodC f
theorem CMapAt.lt {w:World} {b n:Nat} {f:cA} (h:CMapAt w b n f):b<w.heap.size:=by
 obtain ⟨D,h,_⟩:=h.reads;exact h.lt
theorem CMapAt.mono {w:World} {b n n':Nat} {f:cA} (h:CMapAt w b n f) (hn:n<=n'):CMapAt w b n' f:=by
 obtain ⟨⟨D,h,r⟩,g⟩:=h;exact ⟨⟨D,h.mono hn,r⟩,g⟩
theorem CMapAt.same {f:cA} (h:CMapAt w b n f) (e:w'.heap[b]? =w.heap[b]?):CMapAt w' b n f:=by
 exact ko9
theorem sG (w:World):CMapAt (w.alloc (.map #[] 0)) w.heap.size 0 noC:=
 ⟨⟨_,World.ownsMap_made w prog 234 Bh,fun _ _=>rfl⟩,Bd⟩
theorem GS (w:World):(zeroValue 236).run prog w= .ok (sn Ag) w:=zeroValue236 w
theorem CMapAt.look {f:cA} (h:CMapAt w b n f) {k:bU} (hk:WfK k):
  (Instr.lookup 191 (.map (some b)) (od k) true).run prog w= .ok (.tuple #[sn ((f k).getD Ag),.bool (f k).isSome]) w:=by
 obtain ⟨⟨D,h,r⟩,_⟩:=h;obtain ⟨v,ps,hrun,hv⟩:=h.look_ok lawK underlying191 (GS w) (DZ Ag) (wH hk);obtain ⟨p,rfl,hp⟩:=no hv;rw [r.at hk,Prod.mk.injEq] at hp;rw [hrun,r.has hk,AK hp.1]
theorem CMapAt.store {w:World} {b n:Nat} {f:cA} (h:CMapAt w b n f) (hn:n<maxLen) {k:bU} (hk:WfK k) (c:aG):
  ∃w',(Instr.mapUpdate 191 (.map (some b)) (od k) (sn c)).run prog w= .ok () w'/\CMapAt w' b (n+1) (fun x=>if x=k then some c else f x)/\w.mapTurned w' b:=by
 obtain ⟨⟨D,h,r⟩,g⟩:=h;obtain ⟨w',hrun,h',ht⟩:=h.store lawK underlying191 hn (wH hk) (DZ c);exact ⟨w',hrun,⟨⟨_,h',Bt r h.isMap hk c⟩,g.put hk c⟩,ht⟩
end
section
open Go Go.Maps
def AllM (f:cA) (ps:List Mrk):Prop:=(ps.map im).Nodup/\∀p:Mrk,p∈ps↔p.2.2.size≠0/\∃s,f (im p)=some (p.2.2,s)
theorem AllM.marks {f:cA} {ps qs:List Mrk} (h:AllM f ps) (hp:qs.Perm ps) (hs:qs.Pairwise (fun a b=>¬KLt (im b) (im a))):IsMarks f qs:=by
 refine ⟨?_,fun p=>(hp.mem_iff).trans (h.2 p)⟩;have hn:(qs.map im).Nodup:=(hp.map _).nodup_iff.2 h.1;have hn':qs.Pairwise (fun a b=>im a≠im b):=ZA.1 hn
 exact (hs.and hn').imp (fun {a b} h=>by
  rcases mQ h.2 with q | q
  ·exact q
  ·exact absurd q h.1)
def CollM (f:cA) (left:Lit->Bool) (ps:List Mrk):Prop:=
 (ps.map im).Nodup/\(∀p∈ps,(p.2.2.size≠0/\∃s,f (im p)=some (p.2.2,s))/\left (eH (im p))=false)/\∀k c,f k=some c->left (eH k)=false->c.1.size≠0->(k.1,k.2,c.1)∈ps
theorem sR {f:cA} (hr:ReadsC D f) (hg:GoodC f):CollM f (has D) []:=
 ⟨List.nodup_nil,fun p hp=>by simp at hp,fun k c hf hl _=>by rw [hr.has (hg k c hf),hf] at hl;cases hl⟩
theorem CollM.skip {f:cA} {left:Lit->Bool} {ps:List Mrk} (h:CollM f left ps) (hg:GoodC f) {x:bU} {c:aG} (hx:WfK x) (hf:f x=some c) (hc:c.1.size=0):CollM f (fun z=>left z && !z.sameKey (eH x)) ps:=by
 obtain ⟨h1,h2,h3⟩:=h;refine ⟨h1,fun p hp=>⟨(h2 p hp).1,?_⟩,fun k d hk hl hd=> ?_⟩
 ·show (left (eH (im p)) &&_)=false
  rw [(h2 p hp).2];rfl
 have hl:(left (eH k) && !Lit.sameKey (eH k) (eH x))=false:=hl;rw [mV (hg k d hk) hx] at hl;by_cases e:k=x
 ·subst e;rw [hf] at hk
  cases hk
  exact absurd hc hd
 exact h3 k d hk (by simpa [e] using hl) hd
theorem CollM.step {f:cA} {left:Lit->Bool} {ps:List Mrk} (h:CollM f left ps) (hg:GoodC f) {x:bU} {c:aG} (hx:WfK x) (hlx:left (eH x)=true) (hf:f x=some c) (hc:c.1.size≠0):CollM f (fun z=>left z && !z.sameKey (eH x)) (ps++ [(x.1,x.2,c.1)]):=by
 obtain ⟨h1,h2,h3⟩:=h;refine ⟨?_,fun p hp=> ?_,fun k d hk hl hd=> ?_⟩
 ·rw [uI,Ze];refine ⟨h1,zv,fun a ha b hb=> ?_⟩;simp only [uG,ZR,uq] at hb;subst hb;intro e;obtain ⟨p,hp,rfl⟩:=ut.1 ha;have:=(h2 p hp).2;rw [e,show im (x.1,x.2,c.1)=x from rfl,hlx] at this
  cases this
 ·rcases vW.1 hp with hp | hp
  ·refine ⟨(h2 p hp).1,?_⟩
   show (left (eH (im p)) &&_)=false
   rw [(h2 p hp).2];rfl
  simp only [uq] at hp;subst hp;refine ⟨⟨hc,c.2,hf⟩,?_⟩
  show (left (eH x) && !Lit.sameKey (eH x) (eH x))=false
  rw [mV hx hx];simp
 have hl:(left (eH k) && !Lit.sameKey (eH k) (eH x))=false:=hl;rw [mV (hg k d hk) hx] at hl;by_cases e:k=x
 ·subst e;rw [hf] at hk
  cases hk
  simp
 exact uF _ (h3 k d hk (by simpa [e] using hl) hd)
theorem CollM.all {f:cA} {left:Lit->Bool} {ps:List Mrk} (h:CollM f left ps) (hl:∀kl,left kl=false):AllM f ps:=by
 refine ⟨h.1,fun p=>⟨fun hp=>(h.2.1 p hp).1,fun hp=> ?_⟩⟩;obtain ⟨h0,s,hf⟩:=hp;exact h.2.2 (im p) _ hf (hl _) h0
end
section
open Go
def hd (cur:List UInt8):List (List UInt8)->List (List UInt8)
 | []=>[cur]
 | p::ps=>(cur++p)::ps
abbrev RV:=Option (Nat⊕(Nat×Nat×Nat×Nat))
def RV.text:RV:=none
def RV.ok (n0 n1 n2 n3:Nat):RV:=some (.inr (n0,n1,n2,n3))
end
section
open Go
def cP (c:UInt8):Bool:=decide (97<=c.toNat/\c.toNat<=122\/48<=c.toNat/\c.toNat<=57\/c.toNat=45\/c.toNat=46)
def gl (c:UInt8):Bool:=decide (32<=c.toNat/\c.toNat<=126)
def cQ (l:List UInt8):Bool:=decide (1<=l.length) &&decide (l.length<=12) &&l.all cP
def dy (l:List UInt8):Bool:=l.all gl
def bF (id node other:Int) (name value:List UInt8):Nat:=if node<2\/id<node\/other<0\/id<=other then 3 else if cQ name=false then 4 else if value≠ [] then 3 else 0
def gV (id node other:Int) (name value:List UInt8):Nat:=if node<0\/id<=node\/other<0\/id<=other then 3 else if name≠ [] then 4 else if value.length≠1\/dy value=false then 3 else 0
def gu (id node other:Int) (name value:List UInt8):Nat:=if node<0\/id<=node\/other<0\/id<=other\/other=0 then 3 else if name≠ [] then 4 else if value≠ [] then 3 else 0
def gy (id node other:Int) (name value:List UInt8):Nat:=if node<0\/id<=node\/other≠0 then 3 else if cQ name=false then 4 else if 12<value.length\/dy value=false then 3 else 0
def fi (id:Int) (k:Nat) (node other:Int) (name value:List UInt8):Nat:=
 if k=109 then bF id node other name value else if k=105 then gV id node other name value else if k=100 then gu id node other name value else if k=115 then gy id node other name value else 5
def opE (t b n:Int) (k:Nat) (node other:Int) (name value:List UInt8):Nat:=
 if 1<=t/\t<=1073741824/\0<=b/\b<4/\1<=n/\n<=400 then fi (t*4+b) k node other name value else 2
theorem aq {b n:Int} {k:Nat} {node other:Int} {name value:List UInt8} (h:opE t b n k node other name value=0):
  1<=t/\t<=1073741824/\0<=b/\b<4/\1<=n/\n<=400/\(k=109\/k=105\/k=100\/k=115)/\0<=node/\node<=t*4+b/\0<=other/\other<=t*4+b/\(124:UInt8)∉name/\name.length<=12/\value.length<=12:=by
 have nm:cQ name=true->(124:UInt8)∉name/\name.length<=12:=fun hn=>by
  unfold cQ at hn;simp only [uB,decide_eq_true_eq] at hn;refine ⟨fun hm=> ?_,hn.1.2⟩;have:=List.all_eq_true.1 hn.2 _ hm;revert this;decide
 unfold opE at h;split at h
 ·rename_i hc;obtain ⟨h1,h2,h3,h4,h5,h6⟩:=hc;unfold fi at h;split at h
  ·rename_i hk;unfold bF at h;split at h
   ·cases h
   split at h
   ·cases h
   rename_i hn;split at h
   ·cases h
   rename_i hv;have hv:value= []:=Decidable.not_not.1 hv;have:=nm xe;exact ⟨h1,h2,h3,h4,h5,h6,.inl hk,zo,zo,zo,zo,this.1,this.2,qR⟩
  split at h
  ·rename_i hk;unfold gV at h;split at h
   ·cases h
   split at h
   ·cases h
   rename_i hn;split at h
   ·cases h
   rename_i hv;have hn:name= []:=Decidable.not_not.1 hn;subst hn;exact ⟨h1,h2,h3,h4,h5,h6,.inr (.inl hk),zo,zo,zo,zo,zv,zv,zo⟩
  split at h
  ·rename_i hk;unfold gu at h;split at h
   ·cases h
   split at h
   ·cases h
   rename_i hn;split at h
   ·cases h
   rename_i hv;have hn:name= []:=Decidable.not_not.1 hn;have hv:value= []:=Decidable.not_not.1 hv;subst hn hv;exact ⟨h1,h2,h3,h4,h5,h6,.inr (.inr (.inl hk)),zo,zo,zo,zo,zv,zv,zv⟩
  split at h
  ·rename_i hk;unfold gy at h;split at h
   ·cases h
   split at h
   ·cases h
   rename_i hn;split at h
   ·cases h
   have:=nm xe;exact ⟨h1,h2,h3,h4,h5,h6,.inr (.inr (.inr hk)),zo,zo,zo,zo,this.1,this.2,zo⟩
  cases h
 cases h
abbrev Lc:=UInt8×Nat×Nat×Nat×Nat×Nat×List UInt8×List UInt8
end
section
open Go.RowKit
theorem DB {W w1:World} (hb:Below W.heap.size W w1):(∀b o,b<W.heap.size->w1.cell? ⟨b,o,none⟩=W.cell? ⟨b,o,none⟩)/\(∀b o,b<W.heap.size->w1.frozen? ⟨b,o,none⟩=W.frozen? ⟨b,o,none⟩):=
 ⟨fun b o h=>hb.cell (p:=⟨b,o,none⟩) h,fun b o h=>hb.frozen (p:=⟨b,o,none⟩) h⟩
theorem kg (t b:Int) (w:World) (h1:1<=t) (h2:t<=1073741824) (h3:0<=b) (h4:b<4):
  Calls prog 219 #[.agg #[.int .i64 t,.int .i64 b]] w fun e w'=>e= .returned .nilIface/\Below w.heap.size w w':=by
 go_enter func219,ntmps219;exact kc0
theorem oT (t b:Int) (w:World) (eb:Value) (hg:w.cell? ⟨2,0,none⟩=some eb) (hz:2<w.heap.size) (h:¬(1<=t/\t<=1073741824/\0<=b/\b<4)):
  Calls prog 219 #[.agg #[.int .i64 t,.int .i64 b]] w fun e w'=>e= .returned eb/\Below w.heap.size w w':=by
 by_cases h1:1<=t
 ·by_cases h2:t<=1073741824
  ·by_cases h3:0<=b
   ·have h4:4<=b:=by omega
    have d4:decide (b<4)=false:=zr;clear h;go_enter func219,ntmps219;exact kc0
   have h4:b<0:=zo;clear h h3;go_enter func219,ntmps219;exact kc0
  have h4:1073741824<t:=zo;clear h h2;go_enter func219,ntmps219;exact kc0
 have h4:t<1:=zo;clear h h1;go_enter func219,ntmps219;exact kc0
end
section
open Go.RowKit
theorem BO (t b:Int) (w:World) (h1:1<=t) (h2:t<=1073741824) (h3:0<=b) (h4:b<4):
  Calls prog 176 #[.agg #[.int .i64 t,.int .i64 b]] w fun e w'=>e= .returned (.tuple #[.int .i64 (t*4+b),.nilIface])/\Below w.heap.size w w':=by
 go_enter func176,ntmps176;go_wp2_with (go_at_call 219;refine (kg _ _ _ h1 h2 h3 h4).mono ?_;rintro e w1 ⟨rfl,hb⟩;obtain ⟨hc,hf⟩:=DB hb);go_ret2;exact kk7
theorem LD (t b:Int) (w:World) (u:TypeId) (x:Value) (hg:w.cell? ⟨2,0,none⟩=some (.iface u x)) (hz:2<w.heap.size) (h:¬(1<=t/\t<=1073741824/\0<=b/\b<4)):
  Calls prog 176 #[.agg #[.int .i64 t,.int .i64 b]] w fun e w'=>e= .returned (.tuple #[.int .i64 0,.iface u x])/\Below w.heap.size w w':=by
 have H:Hid (¬(1<=t/\t<=1073741824/\0<=b/\b<4)):=h;clear h;go_enter func176,ntmps176;go_wp2_with fail;refine (oT t b _ (.iface u x) (by rw [uD _ _ _ hz];exact hg) qh H.o).mono ?_;rintro e w1 ⟨rfl,hb⟩;obtain ⟨hc,hf⟩:=DB hb;go_wp2;go_ret2;exact kk7
end
section
open Go.RowKit Go.Lib Go.Sort
abbrev OpX:=Int×Int×Int×Nat×Int×Int×ByteArray×ByteArray
def au (x:OpX):List Value:=[.int .i64 x.1,.int .i64 x.2.1,.int .i64 x.2.2.1,.int .u8 (x.2.2.2.1:Int),.int .i64 x.2.2.2.2.1,.int .i64 x.2.2.2.2.2.1,.string x.2.2.2.2.2.2.1,.string x.2.2.2.2.2.2.2]
theorem cv (x:OpX):∀v∈au x,v.oneCell'=true:=by
 intro v hv;simp [au] at hv;exact km7
theorem aT (hb:Below w.heap.size w w') (h:w.cell? ⟨b,o,none⟩=some v):w'.cell? ⟨b,o,none⟩=some v:=by
 exact kh7
def cellsOf (xs:List OpX):List Value:=xs.flatMap au
theorem eX (x:OpX) (xs:List OpX):cellsOf (x::xs)=au x++cellsOf xs:=rfl
theorem bE (x:OpX):(au x).length=8:=rfl
theorem aH:∀xs:List OpX,(cellsOf xs).length=xs.length*8
 | []=>rfl
 | x::xs=>by rw [eX,ub,aH xs,bE,uu];omega
theorem bH (xs:List OpX):∀u∈cellsOf xs,u.oneCell'=true:=by
 intro u hu;obtain ⟨x,_,hx⟩:=List.mem_flatMap.1 hu;exact cv x u hx
theorem bO:∀(xs:List OpX) (i c:Nat),i<xs.length->c<8->(cellsOf xs)[i*8+c]? =some ((au xs[i]!)[c]!)
 | [],i,_,hi,_=>absurd hi zv
 | x::xs,0,c,_,hc=>by
  have e:0*8+c=c:=zo;rw [eX,e,ZJ jj,vN jj];rw [getElem!_pos _ c jj];rfl
 | x::xs,i+1,c,hi,hc=>by
  rw [eX,List.getElem?_append_right (by rw [bE];omega),bE,show (i+1)*8+c - 8=i*8+c by omega,bO xs i c qG hc];simp
theorem cM (a b:List OpX):cellsOf (a++b)=cellsOf a++cellsOf b:=List.flatMap_append
def OpsAt (w:World) (v:Value) (xs:List OpX):Prop:=
 (v= .slice none 0 0/\xs= [])\/∃blk off cap,v= .slice (some ⟨blk,off,none⟩) xs.length cap/\∀j u,(cellsOf xs)[j]? =some u->w.cell? ⟨blk,off+j,none⟩=some u
theorem OpsAt.later {xs:List OpX} (h:OpsAt w v xs) (hb:Below w.heap.size w w'):OpsAt w' v xs:=by
 rcases h with h | ⟨g,o,c,h1,h2⟩
 ·exact .inl h
 exact .inr ⟨g,o,c,h1,fun j u hj=>aT hb (h2 j u hj)⟩
theorem dX:(prog.info? 38).map (fun i=>(i.zero,i.size,i.bytes))=some (some (.agg #[.int .i64 0,.int .i64 0,.int .i64 0,.int .u8 0,.int .i64 0,.int .i64 0,.string ⟨#[]⟩,.string ⟨#[]⟩]),8,80):=zq
theorem iT {off:Nat} {xs:List OpX} (hc:∀j u,(cellsOf xs)[j]? =some u->w.cell? ⟨b,off+j,none⟩=some u) (i c:Nat) (hi:i<xs.length) (h8:c<8):w.cell? ⟨b,off+i*8+c,none⟩=some ((au xs[i]!)[c]!):=by
 rw [Zc];exact hc _ _ (bO xs i c hi h8)
theorem dI {base:Nat} {xs:List OpX} (h:w.ownsRow base 38 8 v xs.length (cellsOf xs)):OpsAt w v xs:=by
 rcases h.2 with ⟨h1,h2⟩ | ⟨g,cap,cur,rfl,_⟩
 ·exact kq1
 refine .inr ⟨g,0,cap,rfl,fun j u hj=> ?_⟩;have hl:j<(cellsOf xs).length:=(vL.1 hj).1;rw [aH] at hl;rw [vY,h.cellAt j hl,hj]
theorem eD (w:World) (cs:List Value) (h8:cs.length=8) (j:Nat) (u:Value) (hj:cs[j]? =some u):(w.alloc (.cells cs.toArray 38)).cell? ((⟨w.heap.size,0,none⟩:Addr).add j)=some u:=by
 have hl:j<1*8:=by have:=(vL.1 hj).1;omega
 have h:=World.ownsRow_lit (base:=0) (e:=38) (size:=8) w cs.toArray 1 (vV _) (by simp [maxLen]) (by simpa using h8);rw [Addr.add_lit,vY,h.cellAt j hl];simpa using hj
structure Eight (w:World) (g p:Nat) (t b m:Int) (kd:Nat) (node other:Int) (name value:ByteArray):Prop where
 c0:w.cell? ⟨g,p,none⟩=some (.int .i64 t)
 c1:w.cell? ⟨g,p+1,none⟩=some (.int .i64 b)
 c2:w.cell? ⟨g,p+2,none⟩=some (.int .i64 m)
 c3:w.cell? ⟨g,p+3,none⟩=some (.int .u8 (kd:Int))
 c4:w.cell? ⟨g,p+4,none⟩=some (.int .i64 node)
 c5:w.cell? ⟨g,p+5,none⟩=some (.int .i64 other)
 c6:w.cell? ⟨g,p+6,none⟩=some (.string name)
 c7:w.cell? ⟨g,p+7,none⟩=some (.string value)
theorem Eight.later {p:Nat} {b:Int} {node other:Int} (h:Eight w g p t b m kd node other name value) (hb:Below w.heap.size w w'):Eight w' g p t b m kd node other name value:=
 ⟨aT hb h.c0,aT hb h.c1,aT hb h.c2,aT hb h.c3,aT hb h.c4,aT hb h.c5,aT hb h.c6,aT hb h.c7⟩
theorem iZ {xs:List OpX} (hc:∀j u,(cellsOf xs)[j]? =some u->w.cell? ⟨g,o+j,none⟩=some u) (i:Nat) (hi:i<xs.length) {b:Int} {node other:Int} (hx:xs[i]! =(t,b,m,kd,node,other,name,value)):Eight w g (o+i*8) t b m kd node other name value:=by
 have h:=fun c h8=>iT hc i c hi h8
 rw [hx] at h;exact ⟨h 0 zo,h 1 zo,h 2 zo,h 3 zo,h 4 zo,h 5 zo,h 6 zo,h 7 zo⟩
theorem ww {xs:List OpX} (hc:∀j u,(cellsOf xs)[j]? =some u->w.cell? ⟨g,o+j,none⟩=some u) (i:Nat) (hi:i<xs.length):w.cell? ⟨g,o+i*8,none⟩=some (.int .i64 (xs[i]!).1)/\w.cell? ⟨g,o+i*8+1,none⟩=some (.int .i64 (xs[i]!).2.1):=
 ⟨iT hc i 0 hi zo,iT hc i 1 hi zo⟩
