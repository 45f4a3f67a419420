import Derived.Test.YtebpcnkdhgnghaaGreatDoorMacB
import Derived.Test.YtebpcnkdhgnghaaGreatDoorProg
import Derived.DeepKeys4
import Derived.WalkSpells
import Derived.LaidEql
import Derived.Lib.AppendIntMem
set_option linter.unusedSimpArgs false
set_option linter.unusedVariables false
set_option maxRecDepth 100000
set_option maxHeartbeats 64000000
namespace Go.Proofs.YtebpcnkdhgnghaaGreatDoor
open Go.Proofs.Tryz
variable {name value:ByteArray} {D:DataW Unit} {z:DataW Unit×List MemPlace} {m t:Int} {a:Int×Int} {l:List Value} {b g kd n o:Nat} {v:Value} {w w':World}
section
abbrev CLt (a b:Int×Int):Prop:=a.1<b.1\/(a.1=b.1/\a.2<b.2)
theorem cZ :¬CLt a a:=by unfold CLt;omega
theorem fi {b c:Int×Int} (h:CLt a b) (k:CLt b c):CLt a c:=by unfold CLt at*;omega
theorem Fp {b:Int×Int} (h:a≠b):CLt a b\/CLt b a:=by
 unfold CLt
 have:a.1≠b.1\/a.2≠b.2:=by
  rcases a with ⟨x,y⟩;rcases b with ⟨z,t⟩;simp only [ne_eq,Prod.mk.injEq] at h;simp only;omega
 omega
theorem Ou {b:Int×Int} (h:¬CLt a b):b=a\/CLt b a:=by
 by_cases e:a=b
 ·exact .inl e.symm
 rcases Fp e with h' | h'
 ·exact absurd h' h
 exact .inr h'
abbrev bU:=Int×ByteArray
abbrev aG:=ByteArray×(Int×Int)
abbrev cA:=bU->Option aG
def noC:cA:=fun _=>none
def fF (f:cA) (k:bU) (c:aG):Bool:=match f k with
 | none=>true
 | some o=>decide (CLt o.2 c.2)
def lw (f:cA) (m:bU×aG):cA:=if fF f m.1 m.2 then fun k=>if k=m.1 then some m.2 else f k else f
def lu (l:List (bU×aG)) (f:cA):cA:=l.foldl lw f
theorem nP (l:List (bU×aG)) (m:bU×aG) (f:cA):lu (l++ [m]) f=lw (lu l f) m:=by simp [lu]
theorem kX {f:cA} {m:bU×aG} {k:bU} (h:k≠m.1):lw f m k=f k:=by
 unfold lw;split
 ·exact if_neg h
 rfl
theorem rD {f:cA} {m:bU×aG} (h:f m.1=none):lw f m m.1=some m.2:=by
 unfold lw fF;rw [h];simp
theorem sS {f:cA} {m:bU×aG} {o:aG} (h:f m.1=some o):lw f m m.1=if CLt o.2 m.2.2 then some m.2 else some o:=by
 unfold lw fF;rw [h];by_cases k:CLt o.2 m.2.2
 ·simp [k]
 simp [k,h]
def JL (l:List (bU×aG)) (k:bU) (r:Option aG):Prop:=match r with
 | none=>∀c,(k,c)∉l
 | some c=>(k,c)∈l/\∀d,(k,d)∈l->¬CLt c.2 d.2
theorem kT (l:List (bU×aG)) (k:bU):JL l k (lu l noC k):=by
 have key:∀(n:Nat) (l:List (bU×aG)),l.length=n->JL l k (lu l noC k):=by
  intro n
  induction n with
  | zero=>
   intro l hn;obtain rfl:=vZ.1 hn
   exact fun c hc=>by simp at hc
  | succ n ih=>
   intro l hn
   obtain ⟨s,m,rfl⟩:∃s m,l=s++ [m]:=by
    refine ⟨l.dropLast,l.getLast (by intro e;rw [e] at hn;cases hn),(List.dropLast_concat_getLast _).symm⟩
   have h:=ih s qy;rw [nP];by_cases hk:k=m.1
   ·subst hk
    cases hf:lu s noC m.1 with
    | none=>
     rw [hf] at h;rw [rD hf];refine ⟨zt,fun d hd=> ?_⟩
     rcases vL.1 hd with hd | hd
     ·exact absurd hd (h d)
     exact kk8
    | some o=>
     rw [hf] at h;rw [sS hf];by_cases hlt:CLt o.2 m.2.2
     ·rw [if_pos hlt];refine ⟨zt,fun d hd=> ?_⟩
      rcases vL.1 hd with hd | hd
      ·exact fun hc=>h.2 d hd (fi hlt hc)
      exact kk8
     rw [if_neg hlt];refine ⟨uk _ h.1,fun d hd=> ?_⟩
     rcases vL.1 hd with hd | hd
     ·exact h.2 d hd
     have e:(m.1,d)=m:=by simpa using hd
     have e2:d=m.2:=jt;rw [e2];exact hlt
   rw [kX hk]
   cases hf:lu s noC k with
   | none=>
    rw [hf] at h;intro c hc
    rcases vL.1 hc with hc | hc
    ·exact h c hc
    have e:(k,c)=m:=by simpa using hc
    exact hk jt
   | some o=>
    rw [hf] at h;refine ⟨uk _ h.1,fun d hd=> ?_⟩
    rcases vL.1 hd with hd | hd
    ·exact h.2 d hd
    have e:(k,d)=m:=by simpa using hd
    exact absurd jt hk
 exact key _ l rfl
def OK (l:List (bU×aG)):Prop:=∀k c d,(k,c)∈l->(k,d)∈l->c.2=d.2->c=d
theorem Fx {l r:List (bU×aG)} {k:bU} {x y:Option aG} (hm:∀m,m∈l↔m∈r) (h1:OK l) (hx:JL l k x) (hy:JL r k y):x=y:=by
 cases x with
 | none=>
  cases y with
  | none=>rfl
  | some d=>exact absurd ((hm _).2 hy.1) (hx d)
 | some c=>
  cases y with
  | none=>exact absurd ((hm _).1 hx.1) (hy c)
  | some d=>
   have a1:=hx.2 d ((hm _).2 hy.1);have a2:=hy.2 c ((hm _).1 hx.1)
   rcases Ou a1 with e | e
   ·rw [h1 k c d hx.1 ((hm _).2 hy.1) e.symm]
   exact absurd e a2
theorem sM {l r:List (bU×aG)} (hm:∀m,m∈l↔m∈r) (h1:OK l):lu l noC=lu r noC:=by
 funext k;exact Fx hm h1 (kT l k) (kT r k)
end
section
abbrev KLt (a b:bU):Prop:=a.1<b.1\/(a.1=b.1/\a.2.data.toList<b.2.data.toList)
theorem wg {a b:ByteArray} (h:a.data.toList=b.data.toList):a=b:=by
 rcases a with ⟨⟨a⟩⟩;rcases b with ⟨⟨b⟩⟩;simp only at h;rw [h]
theorem nV {a b:List UInt8} (h:a≠b):a<b\/b<a:=by
 by_cases h1:a<b
 ·exact .inl h1
 by_cases h2:b<a
 ·exact .inr h2
 exact absurd (List.le_antisymm (List.not_lt.1 h2) (List.not_lt.1 h1)) h
theorem eo {a:bU} :¬KLt a a:=by
 rintro (h | ⟨_,h⟩)
 ·omega
 exact List.lt_irrefl _ h
theorem gh {a b c:bU} (h:KLt a b) (k:KLt b c):KLt a c:=by
 rcases h with h | ⟨h1,h2⟩
 ·rcases k with k | ⟨k1,_⟩
  ·exact .inl zj
  exact .inl zj
 rcases k with k | ⟨k1,k2⟩
 ·exact .inl zj
 exact .inr ⟨zj,List.lt_trans h2 k2⟩
theorem mC {a b:bU} (h:a≠b):KLt a b\/KLt b a:=by
 by_cases h1:a.1=b.1
 ·have h2:a.2.data.toList≠b.2.data.toList:=fun e=>h (Prod.ext h1 (wg e))
  rcases nV h2 with k | k
  ·exact .inl (.inr ⟨h1,k⟩)
  exact .inr (.inr ⟨h1.symm,k⟩)
 by_cases h2:a.1<b.1
 ·exact .inl (.inl h2)
 exact .inr (.inl zj)
theorem gA {α:Type} {R:α->α->Prop} (irr:∀a,¬R a a) (tr:∀a b c,R a b->R b c->R a c):∀ {L M:List α},L.Pairwise R->M.Pairwise R->(∀p,p∈L↔p∈M)->L=M
 | [],[],_,_,_=>rfl
 | [],b::r,_,_,h=>by have:=(h b).2 zt;simp at this
 | a::r,[],_,_,h=>by have:=(h a).1 zt;simp at this
 | a::r,b::s,hl,hm,h=>by
  obtain ⟨h1,h2⟩:=um.1 hl;obtain ⟨k1,k2⟩:=um.1 hm
  have e:a=b:=by
   rcases vJ.1 ((h a).1 zt) with e | ha
   ·exact e
   rcases vJ.1 ((h b).2 zt) with e | hb
   ·exact e.symm
   exact absurd (tr _ _ _ (h1 b hb) (k1 a ha)) (irr a)
  subst e;rw [gA irr tr h2 k2 (fun p=> ?_)];constructor
  ·intro hp
   rcases vJ.1 ((h p).1 (by simp [hp])) with e | hp'
   ·subst e;exact absurd (h1 p hp) (irr p)
   exact hp'
  intro hp
  rcases vJ.1 ((h p).2 (by simp [hp])) with e | hp'
  ·subst e;exact absurd (k1 p hp) (irr p)
  exact hp'
theorem rQ {f:cA} {m:bU×aG} (h:fF f m.1 m.2=true):lw f m=fun k=>if k=m.1 then some m.2 else f k:=by unfold lw;rw [if_pos h]
theorem Ct {f:cA} {m:bU×aG} (h:fF f m.1 m.2=false):lw f m=f:=by unfold lw;rw [if_neg (by rw [h];simp)]
abbrev Mrk:=Int×ByteArray×ByteArray
abbrev io (m:Mrk):bU:=(m.1,m.2.1)
structure IsMarks (f:cA) (L:List Mrk):Prop where
 rise:L.Pairwise (fun a b=>KLt (io a) (io b))
 mem:∀p:Mrk,p∈L↔p.2.2.size≠0/\∃s,f (io p)=some (p.2.2,s)
theorem IsMarks.unique {f:cA} {L M:List Mrk} (h:IsMarks f L) (k:IsMarks f M):L=M:=
 gA (R:=fun a b=>KLt (io a) (io b)) (fun _=>eo) (fun _ _ _=>gh) h.rise k.rise (fun p=>(h.mem p).trans (k.mem p).symm)
structure Lists (f:cA) (L:List (bU×aG)):Prop where
 rise:L.Pairwise (fun a b=>KLt a.1 b.1)
 mem:∀k c,(k,c)∈L↔f k=some c
theorem Cj:Lists noC []:=⟨List.Pairwise.nil,fun k c=>by simp [noC]⟩
def JA (m:bU×aG):Mrk:=(m.1.1,m.1.2,m.2.1)
def Lm (m:bU×aG):Bool:=decide (m.2.1.size≠0)
def shown (L:List (bU×aG)):List Mrk:=(L.filter Lm).map JA
theorem Lists.shown {f:cA} {L:List (bU×aG)} (h:Lists f L):IsMarks f (shown L):=by
 refine ⟨?_,fun p=> ?_⟩
 ·unfold Go.Proofs.YtebpcnkdhgnghaaGreatDoor.shown;rw [Zp];exact (h.rise.filter _).imp (fun {a b} k=>k)
 unfold Go.Proofs.YtebpcnkdhgnghaaGreatDoor.shown;rw [uh];constructor
 ·rintro ⟨m,hm,rfl⟩;obtain ⟨h1,h2⟩:=Zn.1 hm;exact ⟨of_decide_eq_true h2,m.2.2,(h.mem m.1 m.2).1 h1⟩
 rintro ⟨h1,s,h2⟩;exact ⟨(io p,(p.2.2,s)),Zn.2 ⟨(h.mem _ _).2 h2,decide_eq_true h1⟩,rfl⟩
def bI (k:bU):List (bU×aG)->Nat
 | []=>0
 | m::r=>if KLt m.1 k then bI k r+1 else 0
theorem oH (k:bU):∀L:List (bU×aG),bI k L<=L.length
 | []=>vB _
 | m::r=>by
  unfold bI;split
  ·have:=oH k r;simp;exact this
  exact vM _
theorem gr (k:bU):∀(L:List (bU×aG)) (j:Nat) (m:bU×aG),j<bI k L->L[j]? =some m->KLt m.1 k
 | [],j,m,h,_=>by simp [bI] at h
 | x::r,j,m,h,e=>by
  unfold bI at h;split at h
  ·rename_i hx
   cases j with
   | zero=>simp only [List.getElem?_cons_zero,Option.some.injEq] at e;subst e;exact hx
   | succ j=>exact gr k r j m zj yu
  omega
theorem ig (k:bU):∀(L:List (bU×aG)) (m:bU×aG),L[bI k L]? =some m->¬KLt m.1 k
 | [],m,e=>qE
 | x::r,m,e=>by
  unfold bI at e;split at e
  ·exact ig k r m yu
  rename_i hx;simp only [List.getElem?_cons_zero,Option.some.injEq] at e;subst e;exact hx
theorem oK (k:bU) (L:List (bU×aG)) (i:Nat) (hi:i<=L.length) (h1:∀j m,j<i->L[j]? =some m->KLt m.1 k) (h2:∀m,L[i]? =some m->¬KLt m.1 k):bI k L=i:=by
 have hle:=oH k L
 rcases Zw (bI k L) i with h | h | h
 ·have e:=vF (l:=L) (i:=bI k L) zj;exact absurd (h1 _ _ h e) (ig k L _ e)
 ·exact h
 have e:=vF (l:=L) (i:=i) zj;exact absurd (gr k L i _ h e) (h2 _ e)
def rp (L:List (bU×aG)) (m:bU×aG):List (bU×aG):=match L[bI m.1 L]? with
 | none=>L.take (bI m.1 L)++m::L.drop (bI m.1 L)
 | some o=>if o.1=m.1 then (if CLt o.2.2 m.2.2 then L.set (bI m.1 L) m else L) else L.take (bI m.1 L)++m::L.drop (bI m.1 L)
def ii (L:List (bU×aG)) (m:bU×aG):Bool:=match L[bI m.1 L]? with
 | none=>true
 | some o=>if o.1=m.1 then decide (CLt o.2.2 m.2.2) else true
theorem Lists.at_spot {f:cA} {L:List (bU×aG)} (h:Lists f L) {k:bU} {c:aG} (hf:f k=some c):L[bI k L]? =some (k,c):=by
 obtain ⟨i,hi,e⟩:=uJ ((h.mem k c).2 hf)
 have he:L[i]? =some (k,c):=by rw [vF hi,e]
 rw [oK k L i zj (fun j m hj hm=> ?_) (fun m hm=> ?_)]
 ·exact he
 ·have hjl:j<L.length:=by omega
  rw [vF hjl] at hm
  cases hm
  have:=ub.1 h.rise j i hjl hi hj;rwa [e] at this
 rw [he] at hm
 cases hm
 exact eo
theorem Lists.laid {f:cA} {L:List (bU×aG)} (h:Lists f L) (m:bU×aG):ii L m=fF f m.1 m.2:=by
 unfold ii fF
 cases hf:f m.1 with
 | some o=>
  rw [h.at_spot hf];simp
 | none=>
  cases hs:L[bI m.1 L]? with
  | none=>rfl
  | some o=>
   have hne:o.1≠m.1:=fun e=>by
    exact kn2
   simp [hne]
theorem Lt {α:Type} (L:List α) (i:Nat) (x p:α):p∈L.take i++x::L.drop i↔p=x\/p∈L:=by
 rw [vL,vJ];constructor
 ·rintro (h | h | h)
  ·exact .inr (Zg h)
  ·exact .inl h
  exact .inr (Zh h)
 rintro (h | h)
 ·exact .inr (.inl h)
 rw [<-ui i L] at h
 rcases vL.1 h with h | h
 ·exact .inl h
 exact .inr (.inr h)
theorem Lists.fresh {f:cA} {L:List (bU×aG)} (h:Lists f L) {m:bU×aG} (hf:f m.1=none):Lists (lw f m) (L.take (bI m.1 L)++m::L.drop (bI m.1 L)):=by
 refine ⟨?_,fun k c=> ?_⟩
 ·have hr:=h.rise;rw [<-ui (bI m.1 L) L] at hr;obtain ⟨r1,r2,r3⟩:=uX.1 hr;refine uX.2 ⟨r1,um.2 ⟨fun b hb=> ?_,r2⟩,fun a ha b hb=> ?_⟩
  ·obtain ⟨j,hj,rfl⟩:=uJ hb;rw [ur] at hj;rw [List.getElem_drop];have h0:=vF (l:=L) (i:=bI m.1 L) zj;have hns:=ig m.1 L _ h0
   have hne:L[bI m.1 L].1≠m.1:=fun e=>by
    have:=(h.mem L[bI m.1 L].1 L[bI m.1 L].2).1 (uS _);rw [e,hf] at this
    cases this
   have hgt:KLt m.1 L[bI m.1 L].1:=by
    rcases mC hne with q | q
    ·exact absurd q hns
    exact q
   cases j with
   | zero=>exact hgt
   | succ j=>exact gh hgt (ub.1 h.rise (bI m.1 L) (bI m.1 L+(j+1)) zj zj zj)
  obtain ⟨j,hj,rfl⟩:=uJ ha;rw [vW] at hj
  have hjm:KLt (L.take (bI m.1 L))[j].1 m.1:=by
   rw [ZB];exact gr m.1 L j _ zj (vF zj)
  rcases vJ.1 hb with e | hb
  ·rw [e];exact hjm
  exact r3 _ (uS _) b hb
 rw [Lt];by_cases hk:k=m.1
 ·subst hk;rw [rD hf];constructor
  ·rintro (e | e)
   ·rw [<-e]
   have:=(h.mem m.1 c).1 e;rw [hf] at this
   cases this
  intro e
  cases e
  exact .inl rfl
 rw [kX hk,h.mem];constructor
 ·rintro (e | e)
  ·exact absurd jt hk
  exact e
 exact .inr
theorem Lists.newer {f:cA} {L:List (bU×aG)} (h:Lists f L) {m:bU×aG} {o:aG} (hf:f m.1=some o) (hlt:CLt o.2 m.2.2):Lists (lw f m) (L.set (bI m.1 L) m):=by
 have hs:=h.at_spot hf;have hl:bI m.1 L<L.length:=(vA.1 hs).1
 have he:L[bI m.1 L]=(m.1,o):=by rw [vF hl] at hs;exact Option.some.inj hs
 obtain ⟨T,hT⟩:=zc (L.take (bI m.1 L));obtain ⟨D,hD⟩:=zc (L.drop (bI m.1 L+1))
 have e1:L=T++(m.1,o)::D:=by
  rw [hT,hD,<-he,<-uK hl,ui]
 have e2:L.set (bI m.1 L) m=T++m::D:=by rw [List.set_eq_take_append_cons_drop,if_pos hl,hT,hD]
 rw [e2];have hr:=h.rise;rw [e1] at hr;obtain ⟨r1,r2,r3⟩:=uX.1 hr;obtain ⟨r4,r5⟩:=um.1 r2
 have hm:∀k c,(k,c)∈T++(m.1,o)::D↔f k=some c:=by rw [<-e1];exact h.mem
 refine ⟨uX.2 ⟨r1,um.2 ⟨fun b hb=>r4 b hb,r5⟩,fun a ha b hb=> ?_⟩,fun k c=> ?_⟩
 ·rcases vJ.1 hb with e | hb
  ·rw [e];exact r3 a ha (m.1,o) zt
  exact r3 a ha b (by simp [hb])
 rw [vL,vJ];by_cases hk:k=m.1
 ·subst hk;rw [sS hf,if_pos hlt];constructor
  ·rintro (e | e | e)
   ·exact absurd (r3 _ e (m.1,o) zt) eo
   ·rw [<-e]
   exact absurd (r4 _ e) eo
  intro e
  cases e
  exact .inr (.inl rfl)
 rw [kX hk,<-hm,vL,vJ];constructor
 ·rintro (e | e | e)
  ·exact .inl e
  ·exact absurd jt hk
  exact .inr (.inr e)
 rintro (e | e | e)
 ·exact .inl e
 ·exact absurd (Prod.mk.inj e).1 hk
 exact .inr (.inr e)
theorem Lists.lay {f:cA} {L:List (bU×aG)} (h:Lists f L) (m:bU×aG):Lists (lw f m) (rp L m):=by
 unfold rp
 cases hf:f m.1 with
 | some o=>
  rw [h.at_spot hf];dsimp only;rw [if_pos rfl];split
  ·rename_i hlt;exact h.newer hf hlt
  rename_i hlt
  have:lw f m=f:=by unfold lw fF;rw [hf];simp [hlt]
  rw [this];exact h
 | none=>
  cases hs:L[bI m.1 L]? with
  | none=>exact h.fresh hf
  | some o=>
   have hne:o.1≠m.1:=fun e=>by
    exact kn2
   dsimp only;rw [if_neg hne];exact h.fresh hf
theorem IF (L:List (bU×aG)) (m:bU×aG):(rp L m).length<=L.length+1:=by
 have:=oH m.1 L;unfold rp;split
 ·simp;omega
 split
 ·split
  ·simp
  omega
 simp;omega
end
section
open Go Go.Maps
def pM (k:bU):Value:=.agg #[.int .i64 k.1,.string k.2]
theorem AK {p q:bU} (h:pM p=pM q):p=q:=by
 obtain ⟨a,s⟩:=p;obtain ⟨a',s'⟩:=q;simp [pM] at h;obtain ⟨rfl,rfl⟩:=h;rfl
def wF (c:aG):Value:=.agg #[.string c.1,.int .i64 c.2.1,.int .i64 c.2.2]
theorem Hb {p q:aG} (h:wF p=wF q):p=q:=by
 obtain ⟨s,a,b⟩:=p;obtain ⟨s',a',b'⟩:=q;simp [wF] at h;exact kp5
def BR:aG:=(⟨#[]⟩,0,0)
def AN (c:aG):DataW Unit:=.agg [.lit (.string c.1.data.toList),.lit (.int .i64 c.2.1),.lit (.int .i64 c.2.2)]
theorem we {p q:aG} (h:AN p=AN q):p=q:=by
 obtain ⟨⟨⟨s⟩⟩,a,b⟩:=p;obtain ⟨⟨⟨s'⟩⟩,a',b'⟩:=q;simp [AN] at h;exact kp5
def OJ (l:List Value):Option (DataW Unit×List MemPlace):=match l with
 | [.string s,.int .i64 a,.int .i64 b]=>some (AN (s,a,b),[])
 | _=>none
def Bv (v:Value):Option (DataW Unit×List MemPlace):=match v with
 | .agg cs=>OJ cs.toList
 | _=>none
theorem GS (c:aG):Bv (wF c)=some (AN c,[]):=rfl
theorem Hu (h:OJ l=some z):∃c:aG,l= [.string c.1,.int .i64 c.2.1,.int .i64 c.2.2]/\z=(AN c,[]):=by
 unfold OJ at h;split at h
 ·rename_i s a b
  cases h
  exact ⟨(s,a,b),rfl,rfl⟩
 cases h
theorem nh (h:Bv v=some z):∃c,v=wF c/\z=(AN c,[]):=by
 unfold Bv at h;split at h
 ·rename_i cs;obtain ⟨c,e,rfl⟩:=Hu h;refine ⟨c,?_,rfl⟩;unfold wF;rw [<-e]
 cases h
theorem rW:∀(x y:List UInt8),Op.bytesLess x y=decide (x<y)
 | [],[]=>vr
 | _::_,[]=>vr
 | [],_::_=>vr
 | a::x,b::y=>by
  rw [Op.bytesLess,rW x y];simp only [List.cons_lt_cons_iff];by_cases h1:a<b<;>by_cases h2:a=b<;>by_cases h3:x<y<;>simp [h1,h2,h3]
theorem gZ (a b:ByteArray):Op.bytesLess a.toList b.toList=decide (a.data.toList<b.data.toList):=by
 rw [rW,uy,uy]
def WfK (k:bU):Prop:=(Lit.int .i64 k.1).wf=true/\k.2.size<=maxLen
def eH (k:bU):Lit:=.string (keyBytes [.int .i64 k.1,.string k.2.data.toList])
section
variable {P:Program} {K I S:TypeId} {f g:Field}
theorem eK {fs:Array Field} (hu:P.underlying K=some (.struct fs)) (d:Nat) (cs:List Value):P.keyLits (d+1) K cs=if cs.length=P.cellsOf K/\fs.all (·.name != "_")=true then (fs.toList.mapM fun f=>P.keyLits d f.type ((cs.drop f.offset).take (P.cellsOf f.type))).map List.flatten else none:=by
 conv=>lhs;unfold Program.keyLits
 simp only [hu]
theorem gp (hI:P.underlying I=some (.int .i64)) (d:Nat) (v:Value):P.keyLits (d+1) I [v]=match v with | .int .i64 n=>if (Lit.int .i64 n).wf=true then some [.int .i64 n] else none | _=>none:=by
 conv=>lhs;unfold Program.keyLits
 simp only [hI]
 cases v<;>try rfl
 rename_i q n
 cases q<;>simp
theorem mv (hS:P.underlying S=some .string) (d:Nat) (v:Value):P.keyLits (d+1) S [v]=match v with | .string s=>if s.size<=maxLen then some [.string s.data.toList] else none | _=>none:=by
 conv=>lhs;unfold Program.keyLits
 simp only [hS]
 cases v<;>rfl
theorem Lw (hu:P.underlying K=some (.struct #[f,g])) (f1:f.type=I) (f2:f.offset=0) (f3:(f.name != "_")=true) (g1:g.type=S) (g2:g.offset=1) (g3:(g.name != "_")=true) (hI:P.underlying I=some (.int .i64)) (hS:P.underlying S=some .string) (cK:P.cellsOf K=2) (cI:P.cellsOf I=1) (cS:P.cellsOf S=1) (hT:P.keyType K=true) (e:Nat) (he:P.types.size=e+1) {k:bU} (h:WfK k):keyOf P K (pM k)=some (eH k):=by
 obtain ⟨h1,h2⟩:=h
 have hf:(pM k).formed P K=true:=by simp [Value.formed,pM,hu,cK]
 unfold keyOf;rw [hu];dsimp only;rw [hT,hf];simp only [Bool.and_self,if_true];rw [eK hu,he];simp [pM,Value.cells,cK,cI,cS,f1,f2,f3,g1,g2,g3,gp hI,mv hS,h1,h2,eH]
theorem Io (hw:(match P.underlying K with | some (.array _ _) | some (.struct _)=>true | _=>false)=true) (hu:P.underlying K=some (.struct #[f,g])) (f1:f.type=I) (f2:f.offset=0) (g1:g.type=S) (g2:g.offset=1) (hI:P.underlying I=some (.int .i64)) (hS:P.underlying S=some .string) (cK:P.cellsOf K=2) (cI:P.cellsOf I=1) (cS:P.cellsOf S=1) (e:Nat) (he:P.types.size=e+1) {l:Lit} (h:keyOf P K v=some l):∃k,WfK k/\v=pM k/\l=eH k:=by
 obtain ⟨xs,L,rfl,h1,rfl⟩:=keyOf_top hw h;rw [eK hu,he] at h1;split at h1
 ·rename_i hc
  obtain ⟨a,b,hx⟩:∃a b,xs.toList= [a,b]:=by
   rw [cK] at hc;have h2:=hc.1
   match hl:xs.toList,h2 with
   | [a,b],_=>exact ⟨a,b,rfl⟩
  rw [hx] at h1;simp only [List.mapM_cons,List.mapM_nil,f1,f2,g1,g2,cI,cS,List.drop_zero,List.take,List.drop,uY,gp hI,mv hS] at h1
  cases a<;>simp at h1
  rename_i q n
  cases q<;>simp at h1
  cases b<;>simp at h1
  rename_i s;by_cases hwf:(Lit.int .i64 n).wf=true
  ·by_cases hsz:s.size<=maxLen
   ·simp [hwf,hsz] at h1;subst h1;refine ⟨(n,s),⟨hwf,hsz⟩,?_,rfl⟩;unfold pM;congr 1;rw [<-Array.toList_inj,hx]
   simp [hwf,hsz] at h1
  simp [hwf] at h1
 cases h1
end
theorem Jy:204<prog.types.size:=of_decide_eq_true zo
theorem Ef:(match prog.underlying 204 with | some (.array _ _) | some (.struct _)=>true | _=>false)=true:=zo
theorem Jt:laidOutB prog=true:=zo
theorem lawK:Keyed prog 204:=Keyed.of_law (deep_law_laid Jt (m:=2) zj Jy zo Ef)
theorem Nf:prog.keyType 204=true:=zo
theorem At:prog.cellsOf 204=2:=zo
theorem lL:prog.cellsOf 3=1:=zo
theorem rq:prog.cellsOf 9=1:=zo
theorem tD:∃e,prog.types.size=e+1:=Nat.exists_eq_succ_of_ne_zero (by have:=Jy;omega)
theorem Ai {k:bU} (h:WfK k):keyOf prog 204 (pM k)=some (eH k):=by
 obtain ⟨e,he⟩:=tD;exact Lw underlying204 rfl rfl zr rfl rfl zr underlying3 underlying9 At lL rq Nf e he h
theorem Fl {l:Lit} (h:keyOf prog 204 v=some l):∃k,WfK k/\v=pM k/\l=eH k:=by
 obtain ⟨e,he⟩:=tD;exact Io Ef underlying204 rfl rfl rfl rfl underlying3 underlying9 At lL rq e he h
theorem tJ {a b:bU} (ha:WfK a) (hb:WfK b) (h:a≠b):eH a≠eH b:=fun e=>h (AK (lawK.inj (Ai ha) (by rw [e];exact Ai hb)))
theorem FK {k:bU} :WideAt.IsKeyLit (eH k):=trivial
theorem mr {a b:bU} (ha:WfK a) (hb:WfK b):Lit.sameKey (eH a) (eH b)=decide (a=b):=by
 by_cases h:a=b
 ·subst h;rw [WideAt.sameKey_self FK];simp
 rw [sameKey_ne (tJ ha hb h)];simp [h]
theorem FG {k:Int} (h0: -2^63<=k) (h1:k<2^63):(Lit.int .i64 k).wf=true:=by
 exact kj1
theorem NJ {k:bU} (h0: -2^63<=k.1) (h1:k.1<2^63) (h2:k.2.size<=1000000):WfK k:=⟨FG h0 h1,zA⟩
def ReadsC (D:DataW Unit) (f:cA):Prop:=∀k,WfK k->match f k with
 | none=>has D (eH k)=false
 | some c=>∀z,D.atKey (eH k) z=AN c
theorem ReadsC.gone {f:cA} (h:ReadsC D f) {k:bU} (hk:WfK k) (hf:f k=none):has D (eH k)=false:=by
 exact kn0
theorem ReadsC.held {f:cA} (h:ReadsC D f) {k:bU} (hk:WfK k) {c:aG} (hf:f k=some c) (z:DataW Unit):D.atKey (eH k) z=AN c:=by
 exact kl8
theorem ReadsC.has {D:DataW Unit} {f:cA} (h:ReadsC D f) {k:bU} (hk:WfK k):Maps.has D (eH k)=(f k).isSome:=by
 cases hf:f k with
 | none=>rw [h.gone hk hf];rfl
 | some p=>rw [has_true_of_atKey (h.held hk hf)];rfl
theorem ReadsC.at {f:cA} (h:ReadsC D f) {k:bU} (hk:WfK k):D.atKey (eH k) (AN BR)=AN ((f k).getD BR):=by
 cases hf:f k with
 | none=>rw [atKey_of_not_has (h.gone hk hf)];rfl
 | some p=>rw [h.held hk hf];rfl
theorem ReadsC.got {f:cA} (h:ReadsC D f) {k:bU} {c:aG} (hk:WfK k) (hat:∀z,D.atKey (eH k) z=AN c):f k=some c:=by
 have hh:=h.has hk;rw [has_true_of_atKey hat] at hh
 cases hf:f k with
 | none=>rw [hf] at hh;cases hh
 | some p=>
  have:=h.held hk hf .nil;rw [hat] at this;rw [we this]
theorem Af {f:cA} (h:ReadsC D f) (hD:IsMap D) {k:bU} (hk:WfK k) (c:aG):ReadsC (D.put (eH k) (AN c)) (fun x=>if x=k then some c else f x):=by
 intro x hx;dsimp only;by_cases e:x=k
 ·subst e;rw [if_pos rfl]
  exact fun z=>atKey_put_same hD FK _ _
 rw [if_neg e]
 cases hf:f x with
 | none=>rw [has_put_other (tJ hx hk e)];exact h.gone hx hf
 | some q=>intro z;rw [atKey_put_other (tJ hx hk e)];exact h.held hx hf z
def GoodC (f:cA):Prop:=∀k c,f k=some c->WfK k
theorem CB:GoodC noC:=fun k c h=>qD
theorem GoodC.put {f:cA} (h:GoodC f) {k:bU} (hk:WfK k) (c:aG):GoodC (fun x=>if x=k then some c else f x):=by
 intro x d hx;dsimp only at hx;split at hx
 ·rename_i e;rw [e];exact hk
 exact h x d hx
structure CMapAt (w:World) (b n:Nat) (f:cA):Prop where
 reads:∃D,w.ownsMap prog 204 Bv b n D/\ReadsC D f
 good:GoodC f
theorem CMapAt.lt {w:World} {b n:Nat} {f:cA} (h:CMapAt w b n f):b<w.heap.size:=by
 obtain ⟨D,h,_⟩:=h.reads;exact h.lt
theorem CMapAt.mono {w:World} {b n n':Nat} {f:cA} (h:CMapAt w b n f) (hn:n<=n'):CMapAt w b n' f:=by
 obtain ⟨⟨D,h,r⟩,g⟩:=h;exact ⟨⟨D,h.mono hn,r⟩,g⟩
theorem CMapAt.same {f:cA} (h:CMapAt w b n f) (e:w'.heap[b]? =w.heap[b]?):CMapAt w' b n f:=by
 exact km8
theorem wI (w:World):CMapAt (w.alloc (.map #[] 0)) w.heap.size 0 noC:=
 ⟨⟨_,World.ownsMap_made w prog 204 Bv,fun _ _=>rfl⟩,CB⟩
theorem IQ (w:World):(zeroValue 206).run prog w= .ok (wF BR) w:=zeroValue206 w
theorem CMapAt.look {f:cA} (h:CMapAt w b n f) {k:bU} (hk:WfK k):
  (Instr.lookup 201 (.map (some b)) (pM k) true).run prog w= .ok (.tuple #[wF ((f k).getD BR),.bool (f k).isSome]) w:=by
 obtain ⟨⟨D,h,r⟩,_⟩:=h;obtain ⟨v,ps,hrun,hv⟩:=h.look_ok lawK underlying201 (IQ w) (GS BR) (Ai hk);obtain ⟨p,rfl,hp⟩:=nh hv;rw [r.at hk,Prod.mk.injEq] at hp;rw [hrun,r.has hk,we hp.1]
theorem CMapAt.store {w:World} {b n:Nat} {f:cA} (h:CMapAt w b n f) (hn:n<maxLen) {k:bU} (hk:WfK k) (c:aG):
  ∃w',(Instr.mapUpdate 201 (.map (some b)) (pM k) (wF c)).run prog w= .ok () w'/\CMapAt w' b (n+1) (fun x=>if x=k then some c else f x)/\w.mapTurned w' b:=by
 obtain ⟨⟨D,h,r⟩,g⟩:=h;obtain ⟨w',hrun,h',ht⟩:=h.store lawK underlying201 hn (Ai hk) (GS c);exact ⟨w',hrun,⟨⟨_,h',Af r h.isMap hk c⟩,g.put hk c⟩,ht⟩
end
section
open Go Go.Maps
def AllM (f:cA) (ps:List Mrk):Prop:=(ps.map io).Nodup/\∀p:Mrk,p∈ps↔p.2.2.size≠0/\∃s,f (io p)=some (p.2.2,s)
theorem AllM.marks {f:cA} {ps qs:List Mrk} (h:AllM f ps) (hp:qs.Perm ps) (hs:qs.Pairwise (fun a b=>¬KLt (io b) (io a))):IsMarks f qs:=by
 refine ⟨?_,fun p=>(hp.mem_iff).trans (h.2 p)⟩;have hn:(qs.map io).Nodup:=(hp.map _).nodup_iff.2 h.1;have hn':qs.Pairwise (fun a b=>io a≠io b):=Zp.1 hn
 exact (hs.and hn').imp (fun {a b} h=>by
  rcases mC h.2 with q | q
  ·exact q
  ·exact absurd q h.1)
def CollM (f:cA) (left:Lit->Bool) (ps:List Mrk):Prop:=
 (ps.map io).Nodup/\(∀p∈ps,(p.2.2.size≠0/\∃s,f (io p)=some (p.2.2,s))/\left (eH (io p))=false)/\∀k c,f k=some c->left (eH k)=false->c.1.size≠0->(k.1,k.2,c.1)∈ps
theorem sH {f:cA} (hr:ReadsC D f) (hg:GoodC f):CollM f (has D) []:=
 ⟨ZI,fun p hp=>by simp at hp,fun k c hf hl _=>by rw [hr.has (hg k c hf),hf] at hl;cases hl⟩
theorem CollM.skip {f:cA} {left:Lit->Bool} {ps:List Mrk} (h:CollM f left ps) (hg:GoodC f) {x:bU} {c:aG} (hx:WfK x) (hf:f x=some c) (hc:c.1.size=0):CollM f (fun z=>left z && !z.sameKey (eH x)) ps:=by
 obtain ⟨h1,h2,h3⟩:=h;refine ⟨h1,fun p hp=>⟨(h2 p hp).1,?_⟩,fun k d hk hl hd=> ?_⟩
 ·show (left (eH (io p)) &&_)=false
  rw [(h2 p hp).2];rfl
 have hl:(left (eH k) && !Lit.sameKey (eH k) (eH x))=false:=hl;rw [mr (hg k d hk) hx] at hl;by_cases e:k=x
 ·subst e;rw [hf] at hk
  cases hk
  exact absurd hc hd
 exact h3 k d hk (by simpa [e] using hl) hd
theorem CollM.step {f:cA} {left:Lit->Bool} {ps:List Mrk} (h:CollM f left ps) (hg:GoodC f) {x:bU} {c:aG} (hx:WfK x) (hlx:left (eH x)=true) (hf:f x=some c) (hc:c.1.size≠0):CollM f (fun z=>left z && !z.sameKey (eH x)) (ps++ [(x.1,x.2,c.1)]):=by
 obtain ⟨h1,h2,h3⟩:=h;refine ⟨?_,fun p hp=> ?_,fun k d hk hl hd=> ?_⟩
 ·rw [un,uH];refine ⟨h1,zt,fun a ha b hb=> ?_⟩;simp only [ut,ZF,vR] at hb;subst hb;intro e;obtain ⟨p,hp,rfl⟩:=uh.1 ha;have:=(h2 p hp).2;rw [e,show io (x.1,x.2,c.1)=x from rfl,hlx] at this
  cases this
 ·rcases vL.1 hp with hp | hp
  ·refine ⟨(h2 p hp).1,?_⟩
   show (left (eH (io p)) &&_)=false
   rw [(h2 p hp).2];rfl
  simp only [vR] at hp;subst hp;refine ⟨⟨hc,c.2,hf⟩,?_⟩
  show (left (eH x) && !Lit.sameKey (eH x) (eH x))=false
  rw [mr hx hx];simp
 have hl:(left (eH k) && !Lit.sameKey (eH k) (eH x))=false:=hl;rw [mr (hg k d hk) hx] at hl;by_cases e:k=x
 ·subst e;rw [hf] at hk
  cases hk
  simp
 exact uk _ (h3 k d hk (by simpa [e] using hl) hd)
theorem CollM.all {f:cA} {left:Lit->Bool} {ps:List Mrk} (h:CollM f left ps) (hl:∀kl,left kl=false):AllM f ps:=by
 refine ⟨h.1,fun p=>⟨fun hp=>(h.2.1 p hp).1,fun hp=> ?_⟩⟩;obtain ⟨h0,s,hf⟩:=hp;exact h.2.2 (io p) _ hf (hl _) h0
end
section
open Go.RowKit
theorem EB {W w1:World} (hb:Below W.heap.size W w1):(∀b o,b<W.heap.size->w1.cell? ⟨b,o,none⟩=W.cell? ⟨b,o,none⟩)/\(∀b o,b<W.heap.size->w1.frozen? ⟨b,o,none⟩=W.frozen? ⟨b,o,none⟩):=
 ⟨fun b o h=>hb.cell (p:=⟨b,o,none⟩) h,fun b o h=>hb.frozen (p:=⟨b,o,none⟩) h⟩
theorem lQ (t b:Int) (w:World) (h1:1<=t) (h2:t<=1073741824) (h3:0<=b) (h4:b<4):
  Calls prog 249 #[.agg #[.int .i64 t,.int .i64 b]] w fun e w'=>e= .returned .nilIface/\Below w.heap.size w w':=by
 go_enter func249,ntmps249;exact kb8
theorem oX (t b:Int) (w:World) (eb:Value) (hg:w.cell? ⟨0,0,none⟩=some eb) (hz:0<w.heap.size) (h:¬(1<=t/\t<=1073741824/\0<=b/\b<4)):
  Calls prog 249 #[.agg #[.int .i64 t,.int .i64 b]] w fun e w'=>e= .returned eb/\Below w.heap.size w w':=by
 by_cases h1:1<=t
 ·by_cases h2:t<=1073741824
  ·by_cases h3:0<=b
   ·have h4:4<=b:=by omega
    have d4:decide (b<4)=false:=zq;clear h;go_enter func249,ntmps249;exact kb8
   have h4:b<0:=zj;clear h h3;go_enter func249,ntmps249;exact kb8
  have h4:1073741824<t:=zj;clear h h2;go_enter func249,ntmps249;exact kb8
 have h4:t<1:=zj;clear h h1;go_enter func249,ntmps249;exact kb8
end
section
open Go.RowKit
theorem Bt (t b:Int) (w:World) (h1:1<=t) (h2:t<=1073741824) (h3:0<=b) (h4:b<4):
  Calls prog 185 #[.agg #[.int .i64 t,.int .i64 b]] w fun e w'=>e= .returned (.tuple #[.int .i64 (t*4+b),.nilIface])/\Below w.heap.size w w':=by
 go_enter func185,ntmps185;go_wp2_with (go_at_call 249;refine (lQ _ _ _ h1 h2 h3 h4).mono ?_;rintro e w1 ⟨rfl,hb⟩;obtain ⟨hc,hf⟩:=EB hb);go_ret2;exact ki8
theorem Nr (t b:Int) (w:World) (u:TypeId) (x:Value) (hg:w.cell? ⟨0,0,none⟩=some (.iface u x)) (hz:0<w.heap.size) (h:¬(1<=t/\t<=1073741824/\0<=b/\b<4)):
  Calls prog 185 #[.agg #[.int .i64 t,.int .i64 b]] w fun e w'=>e= .returned (.tuple #[.int .i64 0,.iface u x])/\Below w.heap.size w w':=by
 have H:Hid (¬(1<=t/\t<=1073741824/\0<=b/\b<4)):=h;clear h;go_enter func185,ntmps185;go_wp2_with fail;refine (oX t b _ (.iface u x) (by rw [uw _ _ _ hz];exact hg) qb H.o).mono ?_;rintro e w1 ⟨rfl,hb⟩;obtain ⟨hc,hf⟩:=EB hb;go_wp2;go_ret2;exact ki8
end
section
open Go.RowKit Go.Lib Go.Sort
abbrev OpX:=Int×Int×Int×Nat×Int×Int×ByteArray×ByteArray
def bq (x:OpX):List Value:=[.int .i64 x.1,.int .i64 x.2.1,.int .i64 x.2.2.1,.int .u8 (x.2.2.2.1:Int),.int .i64 x.2.2.2.2.1,.int .i64 x.2.2.2.2.2.1,.string x.2.2.2.2.2.2.1,.string x.2.2.2.2.2.2.2]
theorem fP (x:OpX):∀v∈bq x,v.oneCell'=true:=by
 intro v hv;simp [bq] at hv;exact kk6
theorem aT (hb:Below w.heap.size w w') (h:w.cell? ⟨b,o,none⟩=some v):w'.cell? ⟨b,o,none⟩=some v:=by
 exact kg2
def cellsOf (xs:List OpX):List Value:=xs.flatMap bq
theorem eP (x:OpX) (xs:List OpX):cellsOf (x::xs)=bq x++cellsOf xs:=rfl
theorem gK (x:OpX):(bq x).length=8:=rfl
theorem aD:∀xs:List OpX,(cellsOf xs).length=xs.length*8
 | []=>rfl
 | x::xs=>by rw [eP,vN,aD xs,gK,ud];omega
theorem bJ (xs:List OpX):∀u∈cellsOf xs,u.oneCell'=true:=by
 intro u hu;obtain ⟨x,_,hx⟩:=List.mem_flatMap.1 hu;exact fP x u hx
theorem bd:∀(xs:List OpX) (i c:Nat),i<xs.length->c<8->(cellsOf xs)[i*8+c]? =some ((bq xs[i]!)[c]!)
 | [],i,_,hi,_=>absurd hi zt
 | x::xs,0,c,_,hc=>by
  have e:0*8+c=c:=zj;rw [eP,e,ZJ jg,vF jg];rw [getElem!_pos _ c jg];rfl
 | x::xs,i+1,c,hi,hc=>by
  rw [eP,List.getElem?_append_right (by rw [gK];omega),gK,show (i+1)*8+c - 8=i*8+c by omega,bd xs i c qF hc];simp
theorem ci (a b:List OpX):cellsOf (a++b)=cellsOf a++cellsOf b:=List.flatMap_append
def OpsAt (w:World) (v:Value) (xs:List OpX):Prop:=
 (v= .slice none 0 0/\xs= [])\/∃blk off cap,v= .slice (some ⟨blk,off,none⟩) xs.length cap/\∀j u,(cellsOf xs)[j]? =some u->w.cell? ⟨blk,off+j,none⟩=some u
theorem OpsAt.later {xs:List OpX} (h:OpsAt w v xs) (hb:Below w.heap.size w w'):OpsAt w' v xs:=by
 rcases h with h | ⟨g,o,c,h1,h2⟩
 ·exact .inl h
 exact .inr ⟨g,o,c,h1,fun j u hj=>aT hb (h2 j u hj)⟩
theorem fw:(prog.info? 61).map (fun i=>(i.zero,i.size,i.bytes))=some (some (.agg #[.int .i64 0,.int .i64 0,.int .i64 0,.int .u8 0,.int .i64 0,.int .i64 0,.string ⟨#[]⟩,.string ⟨#[]⟩]),8,80):=zo
theorem iA {off:Nat} {xs:List OpX} (hc:∀j u,(cellsOf xs)[j]? =some u->w.cell? ⟨b,off+j,none⟩=some u) (i c:Nat) (hi:i<xs.length) (h8:c<8):w.cell? ⟨b,off+i*8+c,none⟩=some ((bq xs[i]!)[c]!):=by
 rw [uT];exact hc _ _ (bd xs i c hi h8)
theorem ft {base:Nat} {xs:List OpX} (h:w.ownsRow base 61 8 v xs.length (cellsOf xs)):OpsAt w v xs:=by
 rcases h.2 with ⟨h1,h2⟩ | ⟨g,cap,cur,rfl,_⟩
 ·exact kn8
 refine .inr ⟨g,0,cap,rfl,fun j u hj=> ?_⟩;have hl:j<(cellsOf xs).length:=(vA.1 hj).1;rw [aD] at hl;rw [vQ,h.cellAt j hl,hj]
theorem eF (w:World) (cs:List Value) (h8:cs.length=8) (j:Nat) (u:Value) (hj:cs[j]? =some u):(w.alloc (.cells cs.toArray 61)).cell? ((⟨w.heap.size,0,none⟩:Addr).add j)=some u:=by
 have hl:j<1*8:=by have:=(vA.1 hj).1;omega
 have h:=World.ownsRow_lit (base:=0) (e:=61) (size:=8) w cs.toArray 1 (vM _) (by simp [maxLen]) (by simpa using h8);rw [Addr.add_lit,vQ,h.cellAt j hl];simpa using hj
structure Eight (w:World) (g p:Nat) (t b m:Int) (kd:Nat) (node other:Int) (name value:ByteArray):Prop where
 c0:w.cell? ⟨g,p,none⟩=some (.int .i64 t)
 c1:w.cell? ⟨g,p+1,none⟩=some (.int .i64 b)
 c2:w.cell? ⟨g,p+2,none⟩=some (.int .i64 m)
 c3:w.cell? ⟨g,p+3,none⟩=some (.int .u8 (kd:Int))
 c4:w.cell? ⟨g,p+4,none⟩=some (.int .i64 node)
 c5:w.cell? ⟨g,p+5,none⟩=some (.int .i64 other)
 c6:w.cell? ⟨g,p+6,none⟩=some (.string name)
 c7:w.cell? ⟨g,p+7,none⟩=some (.string value)
theorem Eight.later {p:Nat} {b:Int} {node other:Int} (h:Eight w g p t b m kd node other name value) (hb:Below w.heap.size w w'):Eight w' g p t b m kd node other name value:=
 ⟨aT hb h.c0,aT hb h.c1,aT hb h.c2,aT hb h.c3,aT hb h.c4,aT hb h.c5,aT hb h.c6,aT hb h.c7⟩
theorem iB {xs:List OpX} (hc:∀j u,(cellsOf xs)[j]? =some u->w.cell? ⟨g,o+j,none⟩=some u) (i:Nat) (hi:i<xs.length) {b:Int} {node other:Int} (hx:xs[i]! =(t,b,m,kd,node,other,name,value)):Eight w g (o+i*8) t b m kd node other name value:=by
 have h:=fun c h8=>iA hc i c hi h8
 rw [hx] at h;exact ⟨h 0 zj,h 1 zj,h 2 zj,h 3 zj,h 4 zj,h 5 zj,h 6 zj,h 7 zj⟩
theorem AM {xs:List OpX} (hc:∀j u,(cellsOf xs)[j]? =some u->w.cell? ⟨g,o+j,none⟩=some u) (i:Nat) (hi:i<xs.length):w.cell? ⟨g,o+i*8,none⟩=some (.int .i64 (xs[i]!).1)/\w.cell? ⟨g,o+i*8+1,none⟩=some (.int .i64 (xs[i]!).2.1):=
 ⟨iA hc i 0 hi zj,iA hc i 1 hi zj⟩
end
section
open Go.RowKit Go.Lib Go.Sort
def OpsIn (w:World) (ao:Option Addr) (xs:List OpX):Prop:=xs= []\/∃blk off,ao=some ⟨blk,off,none⟩/\∀j u,(cellsOf xs)[j]? =some u->w.cell? ⟨blk,off+j,none⟩=some u
theorem OpsIn.later {ao:Option Addr} {xs:List OpX} (h:OpsIn w ao xs) (hb:Below w.heap.size w w'):OpsIn w' ao xs:=by
 rcases h with h | ⟨g,o,h1,h2⟩
 ·exact .inl h
 exact .inr ⟨g,o,h1,fun j u hj=>aT hb (h2 j u hj)⟩
def GY (x:OpX):Prop:=x.2.2.2.2.2.2.1.size<=60/\x.2.2.2.2.2.2.2.size<=60
theorem OM (m:Nat) (w:World) (ao:Option Addr) (cap:Nat) (xs:List OpX) (h:OpsIn w ao xs) (hn:xs.length<9223372036854775808):
  Calls prog 8 #[.slice ao xs.length cap,.int .i64 (m:Int)] w fun e w'=>(e= .returned (.int .i64 1)\/(e= .returned (.int .i64 0)/\xs.length<=m/\∀j,j<xs.length->GY xs[j]!))/\w'=w:=by
 have HC:Aside (OpsIn w ao xs):=h;clear h;by_cases hl:xs.length<=m
 ·have q0:decide ((m:Int)<(xs.length:Int))=false:=by simp;omega
  have q1:decide (m<xs.length)=false:=decide_eq_false zj;go_enter func8,ntmps8;go_wp2;clear q0 q1;go_loopg [5] xs.length (fun kx s5 wr=>∃(i:Nat),s5= .int .i64 (i:Int)/\i<=xs.length/\xs.length - i<=kx/\wr=w/\∀j,j<i->GY xs[j]!)
  case atStart=>exact ⟨0,rfl,vM _,vB _,rfl,fun j hj=>absurd hj (Nat.not_lt_zero _)⟩
  case round=>
   obtain ⟨i,rfl,hi,hkx,rfl,hS⟩:=hrel;have HS:Aside (∀j,j<i->GY xs[j]!):=hS;clear hS;by_cases hlt:i<xs.length
   ·have hltz:decide ((i:Int)<(xs.length:Int))=true:=by simp;omega
    have ex:((i:Int)).toNat=i:=zj;have px:(0:Int)<=(i:Int):=zj;have bx:(i:Int)<(xs.length:Int):=zj
    obtain ⟨b,off,rfl,hc⟩:∃b off,ao=some ⟨b,off,none⟩/\∀j u,(cellsOf xs)[j]? =some u->wr.cell? ⟨b,off+j,none⟩=some u:=by
     rcases HC.o with h0 | h1
     ·subst h0;simp at hlt
     exact h1
    obtain ⟨nm,c6,e6⟩:∃nm:ByteArray,wr.cell? ⟨b,off+i*8+6,none⟩=some (.string nm)/\Aside (nm=(xs[i]!).2.2.2.2.2.2.1):=⟨_,iA hc i 6 hlt zj,rfl⟩
    obtain ⟨vl,c7,e7⟩:∃vl:ByteArray,wr.cell? ⟨b,off+i*8+7,none⟩=some (.string vl)/\Aside (vl=(xs[i]!).2.2.2.2.2.2.2):=⟨_,iA hc i 7 hlt zj,rfl⟩
    clear hc HC;by_cases h1:(60:Int)<(nm.size:Int)
    ·have d1:decide ((60:Int)<(nm.size:Int))=true:=decide_eq_true h1;exact ko0
    have d1:decide ((60:Int)<(nm.size:Int))=false:=decide_eq_false h1;by_cases h2:(60:Int)<(vl.size:Int)
    ·have d2:decide ((60:Int)<(vl.size:Int))=true:=decide_eq_true h2;exact ko0
    have d2:decide ((60:Int)<(vl.size:Int))=false:=decide_eq_false h2;go_wp2;go_roundg (xs.length - (i+1))
    case measure=>omega
    case rel=>
     refine ⟨i+1,zw,zj,vB _,rfl,fun j hj=> ?_⟩
     rcases uB j i with h | h
     ·exact HS.o j h
     obtain rfl:j=i:=zj;exact ⟨by rw [<-e6.o];omega,by rw [<-e7.o];omega⟩
   have hltz:decide ((i:Int)<(xs.length:Int))=false:=zq;go_wp2;go_ret;exact ⟨.inr ⟨rfl,hl,fun j hj=>HS.o j zj⟩,rfl⟩
 have q0:decide ((m:Int)<(xs.length:Int))=true:=zq;have q1:decide (m<xs.length)=true:=decide_eq_true zj;go_enter func8,ntmps8;exact ko0
end
section
open Go Go.Maps
abbrev ma:=Int×Int
abbrev Bn:=ma->Option OpX
def noN:Bn:=fun _=>none
def Cc (k:ma):Value:=.agg #[.int .i64 k.1,.int .i64 k.2]
theorem Ic {p q:ma} (h:Cc p=Cc q):p=q:=by
 obtain ⟨a,s⟩:=p;obtain ⟨a',s'⟩:=q;simp [Cc] at h;obtain ⟨rfl,rfl⟩:=h;rfl
def bT (x:OpX):Value:=.agg #[.int .i64 x.1,.int .i64 x.2.1,.int .i64 x.2.2.1,.int .u8 (x.2.2.2.1:Int),.int .i64 x.2.2.2.2.1,.int .i64 x.2.2.2.2.2.1,.string x.2.2.2.2.2.2.1,.string x.2.2.2.2.2.2.2]
def aR:OpX:=(0,0,0,0,0,0,⟨#[]⟩,⟨#[]⟩)
def Ce (x:OpX):DataW Unit:=.agg [.lit (.int .i64 x.1),.lit (.int .i64 x.2.1),.lit (.int .i64 x.2.2.1),.lit (.int .u8 (x.2.2.2.1:Int)),.lit (.int .i64 x.2.2.2.2.1),.lit (.int .i64 x.2.2.2.2.2.1),.lit (.string x.2.2.2.2.2.2.1.data.toList),.lit (.string x.2.2.2.2.2.2.2.data.toList)]
theorem IC {p q:OpX} (h:Ce p=Ce q):p=q:=by
 obtain ⟨t,b,n,k,nd,o,⟨⟨s⟩⟩,⟨⟨v⟩⟩⟩:=p;obtain ⟨t',b',n',k',nd',o',⟨⟨s'⟩⟩,⟨⟨v'⟩⟩⟩:=q;simp [Ce] at h;obtain ⟨rfl,rfl,rfl,h4,rfl,rfl,rfl,rfl⟩:=h;obtain rfl:k=k':=zj;rfl
def opL (l:List Value):Option (DataW Unit×List MemPlace):=match l with
 | [.int .i64 t,.int .i64 b,.int .i64 n,.int .u8 k,.int .i64 nd,.int .i64 o,.string s,.string v]=>if 0<=k then some (Ce (t,b,n,k.toNat,nd,o,s,v),[]) else none
 | _=>none
def opR (v:Value):Option (DataW Unit×List MemPlace):=match v with
 | .agg cs=>opL cs.toList
 | _=>none
theorem JG (x:OpX):opR (bT x)=some (Ce x,[]):=by
 simp [opR,bT,opL]
theorem LB (h:opL l=some z):∃x:OpX,l=bq x/\z=(Ce x,[]):=by
 unfold opL at h;split at h
 ·rename_i t b n k nd o s v;split at h
  ·rename_i hk
   cases h
   refine ⟨(t,b,n,k.toNat,nd,o,s,v),?_,rfl⟩;simp [bq,Int.toNat_of_nonneg hk]
  cases h
 cases h
theorem KL (h:opR v=some z):∃x,v=bT x/\z=(Ce x,[]):=by
 unfold opR at h;split at h
 ·rename_i cs;obtain ⟨x,e,rfl⟩:=LB h;refine ⟨x,?_,rfl⟩;unfold bT;unfold bq at e;rw [<-e]
 cases h
def WfN (k:ma):Prop:=(Lit.int .i64 k.1).wf=true/\(Lit.int .i64 k.2).wf=true
def Aa (k:ma):Lit:=.string (keyBytes [.int .i64 k.1,.int .i64 k.2])
section
variable {P:Program} {K I:TypeId} {f g:Field}
theorem JP (hu:P.underlying K=some (.struct #[f,g])) (f1:f.type=I) (f2:f.offset=0) (f3:(f.name != "_")=true) (g1:g.type=I) (g2:g.offset=1) (g3:(g.name != "_")=true) (hI:P.underlying I=some (.int .i64)) (cK:P.cellsOf K=2) (cI:P.cellsOf I=1) (hT:P.keyType K=true) (e:Nat) (he:P.types.size=e+1) {k:ma} (h:WfN k):keyOf P K (Cc k)=some (Aa k):=by
 obtain ⟨h1,h2⟩:=h
 have hf:(Cc k).formed P K=true:=by simp [Value.formed,Cc,hu,cK]
 unfold keyOf;rw [hu];dsimp only;rw [hT,hf];simp only [Bool.and_self,if_true];rw [eK hu,he];simp [Cc,Value.cells,cK,cI,f1,f2,f3,g1,g2,g3,gp hI,h1,h2,Aa]
end
theorem KY:222<prog.types.size:=of_decide_eq_true zo
theorem Gc:(match prog.underlying 222 with | some (.array _ _) | some (.struct _)=>true | _=>false)=true:=zo
theorem lawN:Keyed prog 222:=Keyed.of_law (deep_law_laid Jt (m:=2) zj KY zo Gc)
theorem Mi:prog.keyType 222=true:=zo
theorem Fg:prog.cellsOf 222=2:=zo
theorem oN {k:ma} (h:WfN k):keyOf prog 222 (Cc k)=some (Aa k):=by
 obtain ⟨e,he⟩:=tD;exact JP underlying222 rfl rfl zr rfl rfl zr underlying3 Fg lL Mi e he h
theorem Fz {a b:ma} (ha:WfN a) (hb:WfN b) (h:a≠b):Aa a≠Aa b:=fun e=>h (Ic (lawN.inj (oN ha) (by rw [e];exact oN hb)))
theorem Kk {k:ma} :WideAt.IsKeyLit (Aa k):=trivial
theorem MX {k:ma} (h0: -2^63<=k.1) (h1:k.1<2^63) (h2: -2^63<=k.2) (h3:k.2<2^63):WfN k:=⟨FG h0 h1,FG h2 h3⟩
def ReadsN (D:DataW Unit) (f:Bn):Prop:=∀k,WfN k->match f k with
 | none=>has D (Aa k)=false
 | some c=>∀z,D.atKey (Aa k) z=Ce c
theorem ReadsN.gone {f:Bn} (h:ReadsN D f) {k:ma} (hk:WfN k) (hf:f k=none):has D (Aa k)=false:=by
 exact kn0
theorem ReadsN.held {f:Bn} (h:ReadsN D f) {k:ma} (hk:WfN k) {c:OpX} (hf:f k=some c) (z:DataW Unit):D.atKey (Aa k) z=Ce c:=by
 exact kl8
theorem ReadsN.has {D:DataW Unit} {f:Bn} (h:ReadsN D f) {k:ma} (hk:WfN k):Maps.has D (Aa k)=(f k).isSome:=by
 cases hf:f k with
 | none=>rw [h.gone hk hf];rfl
 | some p=>rw [has_true_of_atKey (h.held hk hf)];rfl
theorem ReadsN.at {f:Bn} (h:ReadsN D f) {k:ma} (hk:WfN k):D.atKey (Aa k) (Ce aR)=Ce ((f k).getD aR):=by
 cases hf:f k with
 | none=>rw [atKey_of_not_has (h.gone hk hf)];rfl
 | some p=>rw [h.held hk hf];rfl
theorem CJ {f:Bn} (h:ReadsN D f) (hD:IsMap D) {k:ma} (hk:WfN k) (c:OpX):ReadsN (D.put (Aa k) (Ce c)) (fun x=>if x=k then some c else f x):=by
 intro x hx;dsimp only;by_cases e:x=k
 ·subst e;rw [if_pos rfl]
  exact fun z=>atKey_put_same hD Kk _ _
 rw [if_neg e]
 cases hf:f x with
 | none=>rw [has_put_other (Fz hx hk e)];exact h.gone hx hf
 | some q=>intro z;rw [atKey_put_other (Fz hx hk e)];exact h.held hx hf z
def NMapAt (w:World) (b n:Nat) (f:Bn):Prop:=∃D,w.ownsMap prog 222 opR b n D/\ReadsN D f
theorem NMapAt.lt {w:World} {b n:Nat} {f:Bn} (h:NMapAt w b n f):b<w.heap.size:=by
 obtain ⟨D,h,_⟩:=h;exact h.lt
theorem NMapAt.same {f:Bn} (h:NMapAt w b n f) (e:w'.heap[b]? =w.heap[b]?):NMapAt w' b n f:=by
 exact ko5
theorem wZ (w:World):NMapAt (w.alloc (.map #[] 0)) w.heap.size 0 noN:=
 ⟨_,World.ownsMap_made w prog 222 opR,fun _ _=>rfl⟩
theorem MW (w:World):(zeroValue 61).run prog w= .ok (bT aR) w:=zeroValue61 w
theorem NMapAt.look {f:Bn} (h:NMapAt w b n f) {k:ma} (hk:WfN k):
  (Instr.lookup 219 (.map (some b)) (Cc k) true).run prog w= .ok (.tuple #[bT ((f k).getD aR),.bool (f k).isSome]) w:=by
 obtain ⟨D,h,r⟩:=h;obtain ⟨v,ps,hrun,hv⟩:=h.look_ok lawN underlying219 (MW w) (JG aR) (oN hk);obtain ⟨p,rfl,hp⟩:=KL hv;rw [r.at hk,Prod.mk.injEq] at hp;rw [hrun,r.has hk,IC hp.1]
theorem NMapAt.store {w:World} {b n:Nat} {f:Bn} (h:NMapAt w b n f) (hn:n<maxLen) {k:ma} (hk:WfN k) (c:OpX):
  ∃w',(Instr.mapUpdate 219 (.map (some b)) (Cc k) (bT c)).run prog w= .ok () w'/\NMapAt w' b (n+1) (fun x=>if x=k then some c else f x)/\w.mapTurned w' b:=by
 obtain ⟨D,h,r⟩:=h;obtain ⟨w',hrun,h',ht⟩:=h.store lawN underlying219 hn (oN hk) (JG c);exact ⟨w',hrun,⟨_,h',CJ r h.isMap hk c⟩,ht⟩
end
section
open Go.RowKit
theorem Es (n:Int) (w:World) (h1:4<=n) (h2:n<4294967300):
  Calls prog 203 #[.int .i64 n] w fun e w'=>e= .returned (.tuple #[.agg #[.int .i64 (n / 4),.int .i64 (n % 4)],.nilIface])/\Below w.heap.size w w':=by
 go_enter func203,ntmps203;go_wp2_with (go_at_call 249;refine (lQ _ _ _ zj zj zj zj).mono ?_;rintro e w1 ⟨rfl,hb⟩;obtain ⟨hc,hf⟩:=EB hb);have c0:w1.cell? ⟨w.heap.size,0,none⟩=some (.int .i64 0):=jN;have c1:w1.cell? ⟨w.heap.size,1,none⟩=some (.int .i64 0):=jN;refine bodyPost_ret (v:=.tuple #[.agg #[.int .i64 (n / 4),.int .i64 (n % 4)],.nilIface]) vz rfl ⟨rfl,?_⟩;exact ((((zh _ _).alloc zt _).trans (hb.mono zq)).setCell zt _).setCell zt _
