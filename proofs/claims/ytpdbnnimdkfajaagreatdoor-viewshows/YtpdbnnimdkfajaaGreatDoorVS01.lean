import Derived.Test.YtpdbnnimdkfajaaGreatDoorMacA
import Derived.Test.YtpdbnnimdkfajaaGreatDoorProg
import Derived.WalkSpells
import Derived.LaidEql
import Derived.Lib.AppendIntMem
import Derived.Shelf.SlLaysF0
import Derived.Shelf.LaysM
import Derived.Shelf.Sort.Plain
import Derived.Shelf.Slices.In.SortNone
import Derived.LaidMore
import Derived.SevenTiedAt
import Derived.Lib.SmallJoins
import Derived.Lib.LaidU8
set_option linter.unusedSimpArgs false
set_option linter.unusedVariables false
set_option maxRecDepth 100000
set_option maxHeartbeats 64000000
section
namespace Go.Proofs.YtpdbnnimdkfajaaGreatDoor
abbrev CLt (a b:Int×Int):Prop:=a.1<b.1\/(a.1=b.1/\a.2<b.2)
theorem clt_irrefl {a:Int×Int} :¬CLt a a:=by unfold CLt;omega
theorem clt_trans {a b c:Int×Int} (h:CLt a b) (k:CLt b c):CLt a c:=by unfold CLt at*;omega
theorem clt_total {a b:Int×Int} (h:a≠b):CLt a b\/CLt b a:=by
 unfold CLt
 have:a.1≠b.1\/a.2≠b.2:=by
  rcases a with ⟨x,y⟩
  rcases b with ⟨z,t⟩
  simp only [ne_eq,Prod.mk.injEq] at h
  simp only
  omega
 omega
theorem cnlt {a b:Int×Int} (h:¬CLt a b):b=a\/CLt b a:=by
 by_cases e:a=b
 ·exact .inl e.symm
 rcases clt_total e with h' | h'
 ·exact absurd h' h
 exact .inr h'
abbrev CKey:=Int×ByteArray
abbrev CMark:=ByteArray×(Int×Int)
abbrev CSta:=CKey->Option CMark
def noC:CSta:=fun _=>none
def goesC (f:CSta) (k:CKey) (c:CMark):Bool:=match f k with
 | none=>true
 | some o=>decide (CLt o.2 c.2)
def setC (f:CSta) (m:CKey×CMark):CSta:=if goesC f m.1 m.2 then fun k=>if k=m.1 then some m.2 else f k else f
def foldC (l:List (CKey×CMark)) (f:CSta):CSta:=l.foldl setC f
theorem foldC_snoc (l:List (CKey×CMark)) (m:CKey×CMark) (f:CSta):foldC (l++ [m]) f=setC (foldC l f) m:=by simp [foldC]
theorem setC_other {f:CSta} {m:CKey×CMark} {k:CKey} (h:k≠m.1):setC f m k=f k:=by
 unfold setC
 split
 ·exact if_neg h
 rfl
theorem setC_none {f:CSta} {m:CKey×CMark} (h:f m.1=none):setC f m m.1=some m.2:=by
 unfold setC goesC
 rw [h]
 simp
theorem setC_some {f:CSta} {m:CKey×CMark} {o:CMark} (h:f m.1=some o):setC f m m.1=if CLt o.2 m.2.2 then some m.2 else some o:=by
 unfold setC goesC
 rw [h]
 by_cases k:CLt o.2 m.2.2
 ·simp [k]
 simp [k,h]
def BestC (l:List (CKey×CMark)) (k:CKey) (r:Option CMark):Prop:=match r with
 | none=>∀c,(k,c)∉l
 | some c=>(k,c)∈l/\∀d,(k,d)∈l->¬CLt c.2 d.2
theorem bestC_fold (l:List (CKey×CMark)) (k:CKey):BestC l k (foldC l noC k):=by
 have key:∀(n:Nat) (l:List (CKey×CMark)),l.length=n->BestC l k (foldC l noC k):=by
  intro n
  induction n with
  | zero=>
   intro l hn
   obtain rfl:=jC.1 hn
   exact fun c hc=>by simp at hc
  | succ n ih=>
   intro l hn
   obtain ⟨s,m,rfl⟩:∃s m,l=s++ [m]:=by
    refine ⟨l.dropLast,l.getLast (by intro e;rw [e] at hn;cases hn),(List.dropLast_concat_getLast _).symm⟩
   have h:=ih s qu
   rw [foldC_snoc]
   by_cases hk:k=m.1
   ·subst hk
    cases hf:foldC s noC m.1 with
    | none=>
     rw [hf] at h
     rw [setC_none hf]
     refine ⟨zm,fun d hd=> ?_⟩
     rcases ju.1 hd with hd | hd
     ·exact absurd hd (h d)
     have e:(m.1,d)=m:=xG
     have e2:d=m.2:=qB
     rw [e2]
     exact clt_irrefl
    | some o=>
     rw [hf] at h
     rw [setC_some hf]
     by_cases hlt:CLt o.2 m.2.2
     ·rw [if_pos hlt]
      refine ⟨zm,fun d hd=> ?_⟩
      rcases ju.1 hd with hd | hd
      ·exact fun hc=>h.2 d hd (clt_trans hlt hc)
      have e:(m.1,d)=m:=xG
      have e2:d=m.2:=qB
      rw [e2]
      exact clt_irrefl
     rw [if_neg hlt]
     refine ⟨jP _ h.1,fun d hd=> ?_⟩
     rcases ju.1 hd with hd | hd
     ·exact h.2 d hd
     have e:(m.1,d)=m:=xG
     have e2:d=m.2:=qB
     rw [e2]
     exact hlt
   rw [setC_other hk]
   cases hf:foldC s noC k with
   | none=>
    rw [hf] at h
    intro c hc
    rcases ju.1 hc with hc | hc
    ·exact h c hc
    have e:(k,c)=m:=by simpa using hc
    exact hk qB
   | some o=>
    rw [hf] at h
    refine ⟨jP _ h.1,fun d hd=> ?_⟩
    rcases ju.1 hd with hd | hd
    ·exact h.2 d hd
    have e:(k,d)=m:=xG
    exact absurd qB hk
 exact key _ l rfl
def OneC (l:List (CKey×CMark)):Prop:=∀k c d,(k,c)∈l->(k,d)∈l->c.2=d.2->c=d
theorem bestC_one {l r:List (CKey×CMark)} {k:CKey} {x y:Option CMark} (hm:∀m,m∈l↔m∈r) (h1:OneC l) (hx:BestC l k x) (hy:BestC r k y):x=y:=by
 cases x with
 | none=>
  cases y with
  | none=>rfl
  | some d=>exact absurd ((hm _).2 hy.1) (hx d)
 | some c=>
  cases y with
  | none=>exact absurd ((hm _).1 hx.1) (hy c)
  | some d=>
   have a1:=hx.2 d ((hm _).2 hy.1)
   have a2:=hy.2 c ((hm _).1 hx.1)
   rcases cnlt a1 with e | e
   ·rw [h1 k c d hx.1 ((hm _).2 hy.1) e.symm]
   exact absurd e a2
theorem foldC_turned {l r:List (CKey×CMark)} (hm:∀m,m∈l↔m∈r) (h1:OneC l):foldC l noC=foldC r noC:=by
 funext k
 exact bestC_one hm h1 (bestC_fold l k) (bestC_fold r k)
end Go.Proofs.YtpdbnnimdkfajaaGreatDoor
end
section
namespace Go.Proofs.YtpdbnnimdkfajaaGreatDoor
abbrev KLt (a b:CKey):Prop:=a.1<b.1\/(a.1=b.1/\a.2.data.toList<b.2.data.toList)
theorem bytesExt {a b:ByteArray} (h:a.data.toList=b.data.toList):a=b:=by
 rcases a with ⟨⟨a⟩⟩
 rcases b with ⟨⟨b⟩⟩
 simp only at h
 rw [h]
theorem bytesTotal {a b:List UInt8} (h:a≠b):a<b\/b<a:=by
 by_cases h1:a<b
 ·exact .inl h1
 by_cases h2:b<a
 ·exact .inr h2
 exact absurd (List.le_antisymm (List.not_lt.1 h2) (List.not_lt.1 h1)) h
theorem klt_irrefl {a:CKey} :¬KLt a a:=by
 rintro (h | ⟨_,h⟩)
 ·omega
 exact ue _ h
theorem klt_trans {a b c:CKey} (h:KLt a b) (k:KLt b c):KLt a c:=by
 rcases h with h | ⟨h1,h2⟩
 ·rcases k with k | ⟨k1,_⟩
  ·exact .inl zi
  exact .inl zi
 rcases k with k | ⟨k1,k2⟩
 ·exact .inl zi
 exact .inr ⟨zi,List.lt_trans h2 k2⟩
theorem klt_total {a b:CKey} (h:a≠b):KLt a b\/KLt b a:=by
 by_cases h1:a.1=b.1
 ·have h2:a.2.data.toList≠b.2.data.toList:=fun e=>h (Prod.ext h1 (bytesExt e))
  rcases bytesTotal h2 with k | k
  ·exact .inl (.inr ⟨h1,k⟩)
  exact .inr (.inr ⟨h1.symm,k⟩)
 by_cases h2:a.1<b.1
 ·exact .inl (.inl h2)
 exact .inr (.inl zi)
theorem rise_unique {α:Type} {R:α->α->Prop} (irr:∀a,¬R a a) (tr:∀a b c,R a b->R b c->R a c):∀ {L M:List α},L.Pairwise R->M.Pairwise R->(∀p,p∈L↔p∈M)->L=M
 | [],[],_,_,_=>rfl
 | [],b::r,_,_,h=>qg
 | a::r,[],_,_,h=>qd
 | a::r,b::s,hl,hm,h=>by
  obtain ⟨h1,h2⟩:=jB.1 hl
  obtain ⟨k1,k2⟩:=jB.1 hm
  have e:a=b:=by
   rcases jn.1 ((h a).1 zm) with e | ha
   ·exact e
   rcases jn.1 ((h b).2 zm) with e | hb
   ·exact e.symm
   exact absurd (tr _ _ _ (h1 b hb) (k1 a ha)) (irr a)
  subst e
  rw [rise_unique irr tr h2 k2 (fun p=> ?_)]
  constructor
  ·intro hp
   rcases jn.1 ((h p).1 yK) with e | hp'
   ·subst e;exact absurd (h1 p hp) (irr p)
   exact hp'
  intro hp
  rcases jn.1 ((h p).2 yK) with e | hp'
  ·subst e;exact absurd (k1 p hp) (irr p)
  exact hp'
theorem setC_goes {f:CSta} {m:CKey×CMark} (h:goesC f m.1 m.2=true):setC f m=fun k=>if k=m.1 then some m.2 else f k:=by unfold setC;rw [if_pos h]
theorem setC_stays {f:CSta} {m:CKey×CMark} (h:goesC f m.1 m.2=false):setC f m=f:=by unfold setC;rw [if_neg (by rw [h];simp)]
abbrev Mrk:=Int×ByteArray×ByteArray
abbrev keyM (m:Mrk):CKey:=(m.1,m.2.1)
structure IsMarks (f:CSta) (L:List Mrk):Prop where
 rise:L.Pairwise (fun a b=>KLt (keyM a) (keyM b))
 mem:∀p:Mrk,p∈L↔p.2.2.size≠0/\∃s,f (keyM p)=some (p.2.2,s)
theorem IsMarks.unique {f:CSta} {L M:List Mrk} (h:IsMarks f L) (k:IsMarks f M):L=M:=
 rise_unique (R:=fun a b=>KLt (keyM a) (keyM b)) (fun _=>klt_irrefl) (fun _ _ _=>klt_trans) h.rise k.rise (fun p=>(h.mem p).trans (k.mem p).symm)
structure Lists (f:CSta) (L:List (CKey×CMark)):Prop where
 rise:L.Pairwise (fun a b=>KLt a.1 b.1)
 mem:∀k c,(k,c)∈L↔f k=some c
def shownM (m:CKey×CMark):Mrk:=(m.1.1,m.1.2,m.2.1)
def fullM (m:CKey×CMark):Bool:=decide (m.2.1.size≠0)
def shown (L:List (CKey×CMark)):List Mrk:=(L.filter fullM).map shownM
theorem Lists.shown {f:CSta} {L:List (CKey×CMark)} (h:Lists f L):IsMarks f (shown L):=by
 refine ⟨?_,fun p=> ?_⟩
 ·unfold Go.Proofs.YtpdbnnimdkfajaaGreatDoor.shown
  rw [ub]
  exact (h.rise.filter _).imp (fun {a b} k=>k)
 unfold Go.Proofs.YtpdbnnimdkfajaaGreatDoor.shown
 rw [jO]
 constructor
 ·rintro ⟨m,hm,rfl⟩
  obtain ⟨h1,h2⟩:=vx.1 hm
  exact ⟨of_decide_eq_true h2,m.2.2,(h.mem m.1 m.2).1 h1⟩
 rintro ⟨h1,s,h2⟩
 exact ⟨(keyM p,(p.2.2,s)),vx.2 ⟨(h.mem _ _).2 h2,decide_eq_true h1⟩,rfl⟩
def spotC (k:CKey):List (CKey×CMark)->Nat
 | []=>0
 | m::r=>if KLt m.1 k then spotC k r+1 else 0
theorem spotC_le (k:CKey):∀L:List (CKey×CMark),spotC k L<=L.length
 | []=>jj _
 | m::r=>by
  unfold spotC
  split
  ·have:=spotC_le k r;simp;exact this
  exact js _
theorem spotC_ahead (k:CKey):∀(L:List (CKey×CMark)) (j:Nat) (m:CKey×CMark),j<spotC k L->L[j]? =some m->KLt m.1 k
 | [],j,m,h,_=>by simp [spotC] at h
 | x::r,j,m,h,e=>by
  unfold spotC at h
  split at h
  ·rename_i hx
   cases j with
   | zero=>simp only [List.getElem?_cons_zero,Option.some.injEq] at e;subst e;exact hx
   | succ j=>exact spotC_ahead k r j m zi zZ
  omega
theorem spotC_stop (k:CKey):∀(L:List (CKey×CMark)) (m:CKey×CMark),L[spotC k L]? =some m->¬KLt m.1 k
 | [],m,e=>jc
 | x::r,m,e=>by
  unfold spotC at e
  split at e
  ·exact spotC_stop k r m zZ
  rename_i hx
  simp only [List.getElem?_cons_zero,Option.some.injEq] at e
  subst e
  exact hx
theorem spotC_is (k:CKey) (L:List (CKey×CMark)) (i:Nat) (hi:i<=L.length) (h1:∀j m,j<i->L[j]? =some m->KLt m.1 k) (h2:∀m,L[i]? =some m->¬KLt m.1 k):spotC k L=i:=by
 have hle:=spotC_le k L
 rcases uc (spotC k L) i with h | h | h
 ·have e:=ji (l:=L) (i:=spotC k L) zi
  exact absurd (h1 _ _ h e) (spotC_stop k L _ e)
 ·exact h
 have e:=ji (l:=L) (i:=i) zi
 exact absurd (spotC_ahead k L i _ h e) (h2 _ e)
def layC (L:List (CKey×CMark)) (m:CKey×CMark):List (CKey×CMark):=match L[spotC m.1 L]? with
 | none=>L.take (spotC m.1 L)++m::L.drop (spotC m.1 L)
 | some o=>if o.1=m.1 then (if CLt o.2.2 m.2.2 then L.set (spotC m.1 L) m else L) else L.take (spotC m.1 L)++m::L.drop (spotC m.1 L)
def laidC (L:List (CKey×CMark)) (m:CKey×CMark):Bool:=match L[spotC m.1 L]? with
 | none=>true
 | some o=>if o.1=m.1 then decide (CLt o.2.2 m.2.2) else true
theorem Lists.at_spot {f:CSta} {L:List (CKey×CMark)} (h:Lists f L) {k:CKey} {c:CMark} (hf:f k=some c):L[spotC k L]? =some (k,c):=by
 obtain ⟨i,hi,e⟩:=jU ((h.mem k c).2 hf)
 have he:L[i]? =some (k,c):=by rw [ji hi,e]
 rw [spotC_is k L i zi (fun j m hj hm=> ?_) (fun m hm=> ?_)]
 ·exact he
 ·have hjl:j<L.length:=by omega
  rw [ji hjl] at hm
  cases hm
  have:=jF.1 h.rise j i hjl hi hj
  rwa [e] at this
 rw [he] at hm
 cases hm
 exact klt_irrefl
theorem Lists.laid {f:CSta} {L:List (CKey×CMark)} (h:Lists f L) (m:CKey×CMark):laidC L m=goesC f m.1 m.2:=by
 unfold laidC goesC
 cases hf:f m.1 with
 | some o=>
  rw [h.at_spot hf]
  simp
 | none=>
  cases hs:L[spotC m.1 L]? with
  | none=>rfl
  | some o=>
   have hne:o.1≠m.1:=fun e=>by
    have:=(h.mem o.1 o.2).1 (jm hs)
    rw [e,hf] at this
    cases this
   simp [hne]
theorem mem_lay {α:Type} (L:List α) (i:Nat) (x p:α):p∈L.take i++x::L.drop i↔p=x\/p∈L:=by
 rw [ju,jn]
 constructor
 ·rintro (h | h | h)
  ·exact .inr (uf h)
  ·exact .inl h
  exact .inr (ug h)
 rintro (h | h)
 ·exact .inr (.inl h)
 rw [<-jH i L] at h
 rcases ju.1 h with h | h
 ·exact .inl h
 exact .inr (.inr h)
theorem Lists.fresh {f:CSta} {L:List (CKey×CMark)} (h:Lists f L) {m:CKey×CMark} (hf:f m.1=none):Lists (setC f m) (L.take (spotC m.1 L)++m::L.drop (spotC m.1 L)):=by
 refine ⟨?_,fun k c=> ?_⟩
 ·have hr:=h.rise
  rw [<-jH (spotC m.1 L) L] at hr
  obtain ⟨r1,r2,r3⟩:=jW.1 hr
  refine jW.2 ⟨r1,jB.2 ⟨fun b hb=> ?_,r2⟩,fun a ha b hb=> ?_⟩
  ·obtain ⟨j,hj,rfl⟩:=jU hb
   rw [jT] at hj
   rw [List.getElem_drop]
   have h0:=ji (l:=L) (i:=spotC m.1 L) zi
   have hns:=spotC_stop m.1 L _ h0
   have hne:L[spotC m.1 L].1≠m.1:=fun e=>by
    have:=(h.mem L[spotC m.1 L].1 L[spotC m.1 L].2).1 (vJ _)
    rw [e,hf] at this
    cases this
   have hgt:KLt m.1 L[spotC m.1 L].1:=by
    rcases klt_total hne with q | q
    ·exact absurd q hns
    exact q
   cases j with
   | zero=>exact hgt
   | succ j=>exact klt_trans hgt (jF.1 h.rise (spotC m.1 L) (spotC m.1 L+(j+1)) zi zi zi)
  obtain ⟨j,hj,rfl⟩:=jU ha
  rw [jz] at hj
  have hjm:KLt (L.take (spotC m.1 L))[j].1 m.1:=by
   rw [ud]
   exact spotC_ahead m.1 L j _ zi (ji zi)
  rcases jn.1 hb with e | hb
  ·rw [e];exact hjm
  exact r3 _ (vJ _) b hb
 rw [mem_lay]
 by_cases hk:k=m.1
 ·subst hk
  rw [setC_none hf]
  constructor
  ·rintro (e | e)
   ·rw [<-e]
   have:=(h.mem m.1 c).1 e
   rw [hf] at this
   cases this
  intro e
  cases e
  exact .inl rfl
 rw [setC_other hk,h.mem]
 constructor
 ·rintro (e | e)
  ·exact absurd qB hk
  exact e
 exact .inr
theorem Lists.newer {f:CSta} {L:List (CKey×CMark)} (h:Lists f L) {m:CKey×CMark} {o:CMark} (hf:f m.1=some o) (hlt:CLt o.2 m.2.2):Lists (setC f m) (L.set (spotC m.1 L) m):=by
 have hs:=h.at_spot hf
 have hl:spotC m.1 L<L.length:=(jh.1 hs).1
 have he:L[spotC m.1 L]=(m.1,o):=by rw [ji hl] at hs;exact Option.some.inj hs
 obtain ⟨T,hT⟩:=za (L.take (spotC m.1 L))
 obtain ⟨D,hD⟩:=za (L.drop (spotC m.1 L+1))
 have e1:L=T++(m.1,o)::D:=by
  rw [hT,hD,<-he,<-jZ hl,jH]
 have e2:L.set (spotC m.1 L) m=T++m::D:=by rw [List.set_eq_take_append_cons_drop,if_pos hl,hT,hD]
 rw [e2]
 have hr:=h.rise
 rw [e1] at hr
 obtain ⟨r1,r2,r3⟩:=jW.1 hr
 obtain ⟨r4,r5⟩:=jB.1 r2
 have hm:∀k c,(k,c)∈T++(m.1,o)::D↔f k=some c:=by rw [<-e1];exact h.mem
 refine ⟨jW.2 ⟨r1,jB.2 ⟨fun b hb=>r4 b hb,r5⟩,fun a ha b hb=> ?_⟩,fun k c=> ?_⟩
 ·rcases jn.1 hb with e | hb
  ·rw [e]
   exact r3 a ha (m.1,o) zm
  exact r3 a ha b (by simp [hb])
 rw [ju,jn]
 by_cases hk:k=m.1
 ·subst hk
  rw [setC_some hf,if_pos hlt]
  constructor
  ·rintro (e | e | e)
   ·exact absurd (r3 _ e (m.1,o) zm) klt_irrefl
   ·rw [<-e]
   exact absurd (r4 _ e) klt_irrefl
  intro e
  cases e
  exact .inr (.inl rfl)
 rw [setC_other hk,<-hm,ju,jn]
 constructor
 ·rintro (e | e | e)
  ·exact .inl e
  ·exact absurd qB hk
  exact .inr (.inr e)
 rintro (e | e | e)
 ·exact .inl e
 ·exact absurd (Prod.mk.inj e).1 hk
 exact .inr (.inr e)
theorem Lists.lay {f:CSta} {L:List (CKey×CMark)} (h:Lists f L) (m:CKey×CMark):Lists (setC f m) (layC L m):=by
 unfold layC
 cases hf:f m.1 with
 | some o=>
  rw [h.at_spot hf]
  dsimp only
  rw [if_pos rfl]
  split
  ·rename_i hlt
   exact h.newer hf hlt
  rename_i hlt
  have:setC f m=f:=by unfold setC goesC;rw [hf];simp [hlt]
  rw [this]
  exact h
 | none=>
  cases hs:L[spotC m.1 L]? with
  | none=>exact h.fresh hf
  | some o=>
   have hne:o.1≠m.1:=fun e=>by
    have:=(h.mem o.1 o.2).1 (jm hs)
    rw [e,hf] at this
    cases this
   dsimp only
   rw [if_neg hne]
   exact h.fresh hf
theorem Lists.first {f:CSta} {L:List (CKey×CMark)} (h:Lists f L) {i:Nat} {m:CKey×CMark} (hi:L[i]? =some m):f m.1=some m.2:=(h.mem m.1 m.2).1 (jm hi)
end Go.Proofs.YtpdbnnimdkfajaaGreatDoor
end
section
namespace Go.Proofs.YtpdbnnimdkfajaaGreatDoor
open Go.Proofs.Tryz
open Go Go.Maps
variable {D:DataW Unit} {z:DataW Unit×List MemPlace} {n:Nat} {w:World}
def encK (k:CKey):Value:=.agg #[.int .i64 k.1,.string k.2]
theorem encK_inj {p q:CKey} (h:encK p=encK q):p=q:=by
 obtain ⟨a,s⟩:=p
 obtain ⟨a',s'⟩:=q
 simp [encK] at h
 obtain ⟨rfl,rfl⟩:=h
 rfl
def encC (c:CMark):Value:=.agg #[.string c.1,.int .i64 c.2.1,.int .i64 c.2.2]
def zeroC:CMark:=(⟨#[]⟩,0,0)
def datC (c:CMark):DataW Unit:=.agg [.lit (.string c.1.data.toList),.lit (.int .i64 c.2.1),.lit (.int .i64 c.2.2)]
theorem datC_inj {p q:CMark} (h:datC p=datC q):p=q:=by
 obtain ⟨⟨⟨s⟩⟩,a,b⟩:=p
 obtain ⟨⟨⟨s'⟩⟩,a',b'⟩:=q
 simp [datC] at h
 obtain ⟨rfl,rfl,rfl⟩:=h
 rfl
def mrkL (l:List Value):Option (DataW Unit×List MemPlace):=match l with
 | [.string s,.int .i64 a,.int .i64 b]=>some (datC (s,a,b),[])
 | _=>none
def mrkR (v:Value):Option (DataW Unit×List MemPlace):=match v with
 | .agg cs=>mrkL cs.toList
 | _=>none
theorem mrkR_mk (c:CMark):mrkR (encC c)=some (datC c,[]):=rfl
theorem mrkL_inv {l:List Value} (h:mrkL l=some z):∃c:CMark,l= [.string c.1,.int .i64 c.2.1,.int .i64 c.2.2]/\z=(datC c,[]):=by
 unfold mrkL at h
 split at h
 ·rename_i s a b
  cases h
  exact ⟨(s,a,b),rfl,rfl⟩
 cases h
theorem mrkR_inv {v:Value} (h:mrkR v=some z):∃c,v=encC c/\z=(datC c,[]):=by
 unfold mrkR at h
 split at h
 ·rename_i cs
  obtain ⟨c,e,rfl⟩:=mrkL_inv h
  refine ⟨c,?_,rfl⟩
  unfold encC
  rw [<-e]
 cases h
theorem less_list:∀(x y:List UInt8),Op.bytesLess x y=decide (x<y)
 | [],[]=>jg
 | _::_,[]=>jg
 | [],_::_=>jg
 | a::x,b::y=>by
  rw [Op.bytesLess,less_list x y]
  simp only [List.cons_lt_cons_iff]
  by_cases h1:a<b<;>by_cases h2:a=b<;>by_cases h3:x<y<;>simp [h1,h2,h3]
theorem less_bytes (a b:ByteArray):Op.bytesLess a.toList b.toList=decide (a.data.toList<b.data.toList):=by
 rw [less_list,jV,jV]
def WfK (k:CKey):Prop:=(Lit.int .i64 k.1).wf=true/\k.2.size<=maxLen
def klit (k:CKey):Lit:=.string (keyBytes [.int .i64 k.1,.string k.2.data.toList])
section
variable {P:Program} {K I S:TypeId} {f g:Field}
theorem keyLits_struct {fs:Array Field} (hu:P.underlying K=some (.struct fs)) (d:Nat) (cs:List Value):P.keyLits (d+1) K cs=if cs.length=P.cellsOf K/\fs.all (·.name != "_")=true then (fs.toList.mapM fun f=>P.keyLits d f.type ((cs.drop f.offset).take (P.cellsOf f.type))).map List.flatten else none:=by
 conv=>lhs;unfold Program.keyLits
 simp only [hu]
theorem keyLits_int (hI:P.underlying I=some (.int .i64)) (d:Nat) (v:Value):P.keyLits (d+1) I [v]=match v with | .int .i64 n=>if (Lit.int .i64 n).wf=true then some [.int .i64 n] else none | _=>none:=by
 conv=>lhs;unfold Program.keyLits
 simp only [hI]
 cases v<;>try rfl
 rename_i q n
 cases q<;>simp
theorem keyLits_str (hS:P.underlying S=some .string) (d:Nat) (v:Value):P.keyLits (d+1) S [v]=match v with | .string s=>if s.size<=maxLen then some [.string s.data.toList] else none | _=>none:=by
 conv=>lhs;unfold Program.keyLits
 simp only [hS]
 cases v<;>rfl
theorem key_mkP (hu:P.underlying K=some (.struct #[f,g])) (f1:f.type=I) (f2:f.offset=0) (f3:(f.name != "_")=true) (g1:g.type=S) (g2:g.offset=1) (g3:(g.name != "_")=true) (hI:P.underlying I=some (.int .i64)) (hS:P.underlying S=some .string) (cK:P.cellsOf K=2) (cI:P.cellsOf I=1) (cS:P.cellsOf S=1) (hT:P.keyType K=true) (e:Nat) (he:P.types.size=e+1) {k:CKey} (h:WfK k):keyOf P K (encK k)=some (klit k):=by
 obtain ⟨h1,h2⟩:=h
 have hf:(encK k).formed P K=true:=by simp [Value.formed,encK,hu,cK]
 unfold keyOf
 rw [hu]
 dsimp only
 rw [hT,hf]
 simp only [Bool.and_self,if_true]
 rw [keyLits_struct hu,he]
 simp [encK,Value.cells,cK,cI,cS,f1,f2,f3,g1,g2,g3,keyLits_int hI,keyLits_str hS,h1,h2,klit]
end
theorem keyRow:234<prog.types.size:=of_decide_eq_true zj
theorem keyWide:(match prog.underlying 234 with | some (.array _ _) | some (.struct _)=>true | _=>false)=true:=zj
theorem keyOut:laidOutB prog=true:=zj
theorem lawK:Keyed prog 234:=Keyed.of_law (deep_law_laid keyOut (m:=2) zi keyRow zj keyWide)
theorem keyIs:prog.keyType 234=true:=zj
theorem keyCells:prog.cellsOf 234=2:=zj
theorem keyCellsI:prog.cellsOf 3=1:=zj
theorem keyCellsS:prog.cellsOf 9=1:=zj
theorem keySize:∃e,prog.types.size=e+1:=Nat.exists_eq_succ_of_ne_zero (by have:=keyRow;omega)
theorem key_mk {k:CKey} (h:WfK k):keyOf prog 234 (encK k)=some (klit k):=by
 obtain ⟨e,he⟩:=keySize
 exact key_mkP underlying234 rfl rfl zo rfl rfl zo underlying3 underlying9 keyCells keyCellsI keyCellsS keyIs e he h
theorem klit_ne {a b:CKey} (ha:WfK a) (hb:WfK b) (h:a≠b):klit a≠klit b:=fun e=>h (encK_inj (lawK.inj (key_mk ha) (by rw [e];exact key_mk hb)))
theorem klit_is {k:CKey} :WideAt.IsKeyLit (klit k):=trivial
theorem same_klit {a b:CKey} (ha:WfK a) (hb:WfK b):Lit.sameKey (klit a) (klit b)=decide (a=b):=by
 by_cases h:a=b
 ·subst h
  rw [WideAt.sameKey_self klit_is]
  simp
 rw [sameKey_ne (klit_ne ha hb h)]
 simp [h]
theorem wf_i64 {k:Int} (h0: -2^63<=k) (h1:k<2^63):(Lit.int .i64 k).wf=true:=by
 have e1:IntKind.i64.min= -2^63:=zo
 have e2:IntKind.i64.max=2^63 - 1:=zo
 simp only [Lit.wf,e1,e2,vK,decide_eq_true_eq]
 omega
theorem wfK_of {k:CKey} (h0: -2^63<=k.1) (h1:k.1<2^63) (h2:k.2.size<=1000000):WfK k:=⟨wf_i64 h0 h1,zD⟩
def ReadsC (D:DataW Unit) (f:CSta):Prop:=∀k,WfK k->match f k with
 | none=>has D (klit k)=false
 | some c=>∀z,D.atKey (klit k) z=datC c
theorem ReadsC.gone {f:CSta} (h:ReadsC D f) {k:CKey} (hk:WfK k) (hf:f k=none):has D (klit k)=false:=by
 have:=h k hk;rw [hf] at this;exact this
theorem ReadsC.held {f:CSta} (h:ReadsC D f) {k:CKey} (hk:WfK k) {c:CMark} (hf:f k=some c) (z:DataW Unit):D.atKey (klit k) z=datC c:=by
 have:=h k hk;rw [hf] at this;exact this z
theorem ReadsC.has {D:DataW Unit} {f:CSta} (h:ReadsC D f) {k:CKey} (hk:WfK k):Maps.has D (klit k)=(f k).isSome:=by
 cases hf:f k with
 | none=>rw [h.gone hk hf];rfl
 | some p=>rw [has_true_of_atKey (h.held hk hf)];rfl
theorem ReadsC.at {f:CSta} (h:ReadsC D f) {k:CKey} (hk:WfK k):D.atKey (klit k) (datC zeroC)=datC ((f k).getD zeroC):=by
 cases hf:f k with
 | none=>rw [atKey_of_not_has (h.gone hk hf)];rfl
 | some p=>rw [h.held hk hf];rfl
theorem readsC_put {f:CSta} (h:ReadsC D f) (hD:IsMap D) {k:CKey} (hk:WfK k) (c:CMark):ReadsC (D.put (klit k) (datC c)) (fun x=>if x=k then some c else f x):=by
 intro x hx
 dsimp only
 by_cases e:x=k
 ·subst e
  rw [if_pos rfl]
  exact fun z=>atKey_put_same hD klit_is _ _
 rw [if_neg e]
 cases hf:f x with
 | none=>rw [has_put_other (klit_ne hx hk e)];exact h.gone hx hf
 | some q=>intro z;rw [atKey_put_other (klit_ne hx hk e)];exact h.held hx hf z
def GoodC (f:CSta):Prop:=∀k c,f k=some c->WfK k
theorem goodC_none:GoodC noC:=fun k c h=>yA
theorem GoodC.put {f:CSta} (h:GoodC f) {k:CKey} (hk:WfK k) (c:CMark):GoodC (fun x=>if x=k then some c else f x):=by
 intro x d hx
 dsimp only at hx
 split at hx
 ·rename_i e;rw [e];exact hk
 exact h x d hx
structure CMapAt (w:World) (b n:Nat) (f:CSta):Prop where
 reads:∃D,w.ownsMap prog 234 mrkR b n D/\ReadsC D f
 good:GoodC f
theorem CMapAt.lt {w:World} {b n:Nat} {f:CSta} (h:CMapAt w b n f):b<w.heap.size:=by
 obtain ⟨D,h,_⟩:=h.reads;exact h.lt
theorem CMapAt.mono {w:World} {b n n':Nat} {f:CSta} (h:CMapAt w b n f) (hn:n<=n'):CMapAt w b n' f:=by
 obtain ⟨⟨D,h,r⟩,g⟩:=h;exact ⟨⟨D,h.mono hn,r⟩,g⟩
theorem CMapAt.same {w':World} {b:Nat} {f:CSta} (h:CMapAt w b n f) (e:w'.heap[b]? =w.heap[b]?):CMapAt w' b n f:=by
 obtain ⟨⟨D,⟨es,clock,hb,F⟩,r⟩,g⟩:=h
 exact ⟨⟨D,⟨es,clock,e.trans hb,F⟩,r⟩,g⟩
theorem cmapAt_made (w:World):CMapAt (w.alloc (.map #[] 0)) w.heap.size 0 noC:=
 ⟨⟨_,World.ownsMap_made w prog 234 mrkR,fun _ _=>rfl⟩,goodC_none⟩
theorem zeroCell (w:World):(zeroValue 236).run prog w= .ok (encC zeroC) w:=zeroValue236 w
theorem CMapAt.look {b:Nat} {f:CSta} (h:CMapAt w b n f) {k:CKey} (hk:WfK k):
  (Instr.lookup 191 (.map (some b)) (encK k) true).run prog w= .ok (.tuple #[encC ((f k).getD zeroC),.bool (f k).isSome]) w:=by
 obtain ⟨⟨D,h,r⟩,_⟩:=h
 obtain ⟨v,ps,hrun,hv⟩:=h.look_ok lawK underlying191 (zeroCell w) (mrkR_mk zeroC) (key_mk hk)
 obtain ⟨p,rfl,hp⟩:=mrkR_inv hv
 rw [r.at hk,Prod.mk.injEq] at hp
 rw [hrun,r.has hk,datC_inj hp.1]
theorem CMapAt.store {w:World} {b n:Nat} {f:CSta} (h:CMapAt w b n f) (hn:n<maxLen) {k:CKey} (hk:WfK k) (c:CMark):
  ∃w',(Instr.mapUpdate 191 (.map (some b)) (encK k) (encC c)).run prog w= .ok () w'/\CMapAt w' b (n+1) (fun x=>if x=k then some c else f x)/\w.mapTurned w' b:=by
 obtain ⟨⟨D,h,r⟩,g⟩:=h
 obtain ⟨w',hrun,h',ht⟩:=h.store lawK underlying191 hn (key_mk hk) (mrkR_mk c)
 exact ⟨w',hrun,⟨⟨_,h',readsC_put r h.isMap hk c⟩,g.put hk c⟩,ht⟩
end Go.Proofs.YtpdbnnimdkfajaaGreatDoor
end
section
namespace Go.Proofs.YtpdbnnimdkfajaaGreatDoor
open Go Go.Maps
def AllM (f:CSta) (ps:List Mrk):Prop:=(ps.map keyM).Nodup/\∀p:Mrk,p∈ps↔p.2.2.size≠0/\∃s,f (keyM p)=some (p.2.2,s)
theorem AllM.marks {f:CSta} {ps qs:List Mrk} (h:AllM f ps) (hp:qs.Perm ps) (hs:qs.Pairwise (fun a b=>¬KLt (keyM b) (keyM a))):IsMarks f qs:=by
 refine ⟨?_,fun p=>(hp.mem_iff).trans (h.2 p)⟩
 have hn:(qs.map keyM).Nodup:=(hp.map _).nodup_iff.2 h.1
 have hn':qs.Pairwise (fun a b=>keyM a≠keyM b):=ub.1 hn
 exact (hs.and hn').imp (fun {a b} h=>by
  rcases klt_total h.2 with q | q
  ·exact q
  ·exact absurd q h.1)
def CollM (f:CSta) (left:Lit->Bool) (ps:List Mrk):Prop:=
 (ps.map keyM).Nodup/\(∀p∈ps,(p.2.2.size≠0/\∃s,f (keyM p)=some (p.2.2,s))/\left (klit (keyM p))=false)/\∀k c,f k=some c->left (klit k)=false->c.1.size≠0->(k.1,k.2,c.1)∈ps
theorem CollM.skip {f:CSta} {left:Lit->Bool} {ps:List Mrk} (h:CollM f left ps) (hg:GoodC f) {x:CKey} {c:CMark} (hx:WfK x) (hf:f x=some c) (hc:c.1.size=0):CollM f (fun z=>left z && !z.sameKey (klit x)) ps:=by
 obtain ⟨h1,h2,h3⟩:=h
 refine ⟨h1,fun p hp=>⟨(h2 p hp).1,?_⟩,fun k d hk hl hd=> ?_⟩
 ·show (left (klit (keyM p)) &&_)=false
  rw [(h2 p hp).2]
  rfl
 have hl:(left (klit k) && !Lit.sameKey (klit k) (klit x))=false:=hl
 rw [same_klit (hg k d hk) hx] at hl
 by_cases e:k=x
 ·subst e
  rw [hf] at hk
  cases hk
  exact absurd hc hd
 exact h3 k d hk (by simpa [e] using hl) hd
theorem CollM.step {f:CSta} {left:Lit->Bool} {ps:List Mrk} (h:CollM f left ps) (hg:GoodC f) {x:CKey} {c:CMark} (hx:WfK x) (hlx:left (klit x)=true) (hf:f x=some c) (hc:c.1.size≠0):CollM f (fun z=>left z && !z.sameKey (klit x)) (ps++ [(x.1,x.2,c.1)]):=by
 obtain ⟨h1,h2,h3⟩:=h
 refine ⟨?_,fun p hp=> ?_,fun k d hk hl hd=> ?_⟩
 ·rw [jY,vz]
  refine ⟨h1,zm,fun a ha b hb=> ?_⟩
  simp only [vA,List.map_nil,jD] at hb
  subst hb
  intro e
  obtain ⟨p,hp,rfl⟩:=jO.1 ha
  have:=(h2 p hp).2
  rw [e,show keyM (x.1,x.2,c.1)=x from rfl,hlx] at this
  cases this
 ·rcases ju.1 hp with hp | hp
  ·refine ⟨(h2 p hp).1,?_⟩
   show (left (klit (keyM p)) &&_)=false
   rw [(h2 p hp).2]
   rfl
  simp only [jD] at hp
  subst hp
  refine ⟨⟨hc,c.2,hf⟩,?_⟩
  show (left (klit x) && !Lit.sameKey (klit x) (klit x))=false
  rw [same_klit hx hx]
  simp
 have hl:(left (klit k) && !Lit.sameKey (klit k) (klit x))=false:=hl
 rw [same_klit (hg k d hk) hx] at hl
 by_cases e:k=x
 ·subst e
  rw [hf] at hk
  cases hk
  simp
 exact jP _ (h3 k d hk (by simpa [e] using hl) hd)
theorem CollM.all {f:CSta} {left:Lit->Bool} {ps:List Mrk} (h:CollM f left ps) (hl:∀kl,left kl=false):AllM f ps:=by
 refine ⟨h.1,fun p=>⟨fun hp=>(h.2.1 p hp).1,fun hp=> ?_⟩⟩
 obtain ⟨h0,s,hf⟩:=hp
 exact h.2.2 (keyM p) _ hf (hl _) h0
end Go.Proofs.YtpdbnnimdkfajaaGreatDoor
end
section
namespace Go.Proofs.YtpdbnnimdkfajaaGreatDoor
open Go.Proofs.Tryz
open Go.RowKit
theorem bcell {W w1:World} (hb:Below W.heap.size W w1):(∀b o,b<W.heap.size->w1.cell? ⟨b,o,none⟩=W.cell? ⟨b,o,none⟩)/\(∀b o,b<W.heap.size->w1.frozen? ⟨b,o,none⟩=W.frozen? ⟨b,o,none⟩):=
 ⟨fun b o h=>hb.cell (p:=⟨b,o,none⟩) h,fun b o h=>hb.frozen (p:=⟨b,o,none⟩) h⟩
theorem check_ok (t b:Int) (w:World) (h1:1<=t) (h2:t<=1073741824) (h3:0<=b) (h4:b<4):
  Calls prog 219 #[.agg #[.int .i64 t,.int .i64 b]] w fun e w'=>e= .returned .nilIface/\Below w.heap.size w w':=by
 go_enter func219,ntmps219
 go_wp2
 go_ret
 exact ⟨rfl,zg _ _⟩
theorem check_no (t b:Int) (w:World) (eb:Value) (hg:w.cell? ⟨2,0,none⟩=some eb) (hz:2<w.heap.size) (h:¬(1<=t/\t<=1073741824/\0<=b/\b<4)):
  Calls prog 219 #[.agg #[.int .i64 t,.int .i64 b]] w fun e w'=>e= .returned eb/\Below w.heap.size w w':=by
 by_cases h1:1<=t
 ·by_cases h2:t<=1073741824
  ·by_cases h3:0<=b
   ·have h4:4<=b:=by omega
    have d4:decide (b<4)=false:=zk
    clear h
    go_enter func219,ntmps219
    go_wp2
    go_ret
    exact ⟨rfl,zg _ _⟩
   have h4:b<0:=zi
   clear h h3
   go_enter func219,ntmps219
   go_wp2
   go_ret
   exact ⟨rfl,zg _ _⟩
  have h4:1073741824<t:=zi
  clear h h2
  go_enter func219,ntmps219
  go_wp2
  go_ret
  exact ⟨rfl,zg _ _⟩
 have h4:t<1:=zi
 clear h h1
 go_enter func219,ntmps219
 go_wp2
 go_ret
 exact ⟨rfl,zg _ _⟩
end Go.Proofs.YtpdbnnimdkfajaaGreatDoor
end
section
namespace Go.Proofs.YtpdbnnimdkfajaaGreatDoor
open Go.Proofs.Tryz
open Go.RowKit
theorem id_ok (t b:Int) (w:World) (h1:1<=t) (h2:t<=1073741824) (h3:0<=b) (h4:b<4):
  Calls prog 176 #[.agg #[.int .i64 t,.int .i64 b]] w fun e w'=>e= .returned (.tuple #[.int .i64 (t*4+b),.nilIface])/\Below w.heap.size w w':=by
 go_enter func176,ntmps176
 go_wp2_with (go_at_call 219;refine (check_ok _ _ _ h1 h2 h3 h4).mono ?_;rintro e w1 ⟨rfl,hb⟩;obtain ⟨hc,hf⟩:=bcell hb)
 go_ret2
 exact ⟨rfl,(zg _ _).trans (hb.mono zm)⟩
theorem id_no (t b:Int) (w:World) (u:TypeId) (x:Value) (hg:w.cell? ⟨2,0,none⟩=some (.iface u x)) (hz:2<w.heap.size) (h:¬(1<=t/\t<=1073741824/\0<=b/\b<4)):
  Calls prog 176 #[.agg #[.int .i64 t,.int .i64 b]] w fun e w'=>e= .returned (.tuple #[.int .i64 0,.iface u x])/\Below w.heap.size w w':=by
 have H:Hid (¬(1<=t/\t<=1073741824/\0<=b/\b<4)):=h
 clear h
 go_enter func176,ntmps176
 go_wp2_with fail
 refine (check_no t b _ (.iface u x) (by rw [uq _ _ _ hz];exact hg) yB H.o).mono ?_
 rintro e w1 ⟨rfl,hb⟩
 obtain ⟨hc,hf⟩:=bcell hb
 go_wp2
 go_ret2
 exact ⟨rfl,(zg _ _).trans (hb.mono zm)⟩
end Go.Proofs.YtpdbnnimdkfajaaGreatDoor
end
section
namespace Go.Proofs.YtpdbnnimdkfajaaGreatDoor
open Go.RowKit Go.Lib Go.Sort
variable {name value:ByteArray} {m t:Int} {g kd o:Nat} {v:Value} {w w':World}
abbrev OpX:=Int×Int×Int×Nat×Int×Int×ByteArray×ByteArray
def encX (x:OpX):List Value:=[.int .i64 x.1,.int .i64 x.2.1,.int .i64 x.2.2.1,.int .u8 (x.2.2.2.1:Int),.int .i64 x.2.2.2.2.1,.int .i64 x.2.2.2.2.2.1,.string x.2.2.2.2.2.2.1,.string x.2.2.2.2.2.2.2]
theorem encX_one (x:OpX):∀v∈encX x,v.oneCell'=true:=by
 intro v hv
 simp [encX] at hv
 rcases hv with rfl | rfl | rfl | rfl | rfl | rfl | rfl | rfl<;>rfl
theorem cellKept {b:Nat} (hb:Below w.heap.size w w') (h:w.cell? ⟨b,o,none⟩=some v):w'.cell? ⟨b,o,none⟩=some v:=by
 rw [hb.cell (p:=⟨b,o,none⟩) (jl w ⟨b,o,none⟩ h)];exact h
def cellsOf (xs:List OpX):List Value:=xs.flatMap encX
theorem cellsOf_cons (x:OpX) (xs:List OpX):cellsOf (x::xs)=encX x++cellsOf xs:=rfl
theorem encX_len (x:OpX):(encX x).length=8:=rfl
theorem cellsOf_len:∀xs:List OpX,(cellsOf xs).length=xs.length*8
 | []=>rfl
 | x::xs=>by rw [cellsOf_cons,jA,cellsOf_len xs,encX_len,jK];omega
theorem cellsOf_one (xs:List OpX):∀u∈cellsOf xs,u.oneCell'=true:=by
 intro u hu
 obtain ⟨x,_,hx⟩:=List.mem_flatMap.1 hu
 exact encX_one x u hx
theorem cellsOf_get:∀(xs:List OpX) (i c:Nat),i<xs.length->c<8->(cellsOf xs)[i*8+c]? =some ((encX xs[i]!)[c]!)
 | [],i,_,hi,_=>absurd hi zm
 | x::xs,0,c,_,hc=>by
  have e:0*8+c=c:=zi
  rw [cellsOf_cons,e,vD xl,ji xl]
  rw [getElem!_pos _ c xl]
  rfl
 | x::xs,i+1,c,hi,hc=>by
  rw [cellsOf_cons,uz (by rw [encX_len];omega),encX_len,show (i+1)*8+c - 8=i*8+c by omega,cellsOf_get xs i c qL hc]
  simp
theorem cellsOf_app (a b:List OpX):cellsOf (a++b)=cellsOf a++cellsOf b:=List.flatMap_append
def OpsAt (w:World) (v:Value) (xs:List OpX):Prop:=
 (v= .slice none 0 0/\xs= [])\/∃blk off cap,v= .slice (some ⟨blk,off,none⟩) xs.length cap/\∀j u,(cellsOf xs)[j]? =some u->w.cell? ⟨blk,off+j,none⟩=some u
theorem OpsAt.later {xs:List OpX} (h:OpsAt w v xs) (hb:Below w.heap.size w w'):OpsAt w' v xs:=by
 rcases h with h | ⟨g,o,c,h1,h2⟩
 ·exact .inl h
 exact .inr ⟨g,o,c,h1,fun j u hj=>cellKept hb (h2 j u hj)⟩
theorem infoOp:(Tryz.prog.info? 38).map (fun i=>(i.zero,i.size,i.bytes))=some (some (.agg #[.int .i64 0,.int .i64 0,.int .i64 0,.int .u8 0,.int .i64 0,.int .i64 0,.string ⟨#[]⟩,.string ⟨#[]⟩]),8,80):=zj
theorem field_at {b off:Nat} {xs:List OpX} (hc:∀j u,(cellsOf xs)[j]? =some u->w.cell? ⟨b,off+j,none⟩=some u) (i c:Nat) (hi:i<xs.length) (h8:c<8):w.cell? ⟨b,off+i*8+c,none⟩=some ((encX xs[i]!)[c]!):=by
 rw [vG];exact hc _ _ (cellsOf_get xs i c hi h8)
theorem ownsOps {base:Nat} {xs:List OpX} (h:w.ownsRow base 38 8 v xs.length (cellsOf xs)):OpsAt w v xs:=by
 rcases h.2 with ⟨h1,h2⟩ | ⟨g,cap,cur,rfl,_⟩
 ·exact .inl ⟨h1,jC.1 h2⟩
 refine .inr ⟨g,0,cap,rfl,fun j u hj=> ?_⟩
 have hl:j<(cellsOf xs).length:=(jh.1 hj).1
 rw [cellsOf_len] at hl
 rw [jt,h.cellAt j hl,hj]
theorem lit_cells (w:World) (cs:List Value) (h8:cs.length=8) (j:Nat) (u:Value) (hj:cs[j]? =some u):(w.alloc (.cells cs.toArray 38)).cell? ((⟨w.heap.size,0,none⟩:Addr).add j)=some u:=by
 have hl:j<1*8:=by have:=(jh.1 hj).1;omega
 have h:=World.ownsRow_lit (base:=0) (e:=38) (size:=8) w cs.toArray 1 (js _) (by simp [maxLen]) (by simpa using h8)
 rw [Addr.add_lit,jt,h.cellAt j hl]
 simpa using hj
structure Eight (w:World) (g p:Nat) (t b m:Int) (kd:Nat) (node other:Int) (name value:ByteArray):Prop where
 c0:w.cell? ⟨g,p,none⟩=some (.int .i64 t)
 c1:w.cell? ⟨g,p+1,none⟩=some (.int .i64 b)
 c2:w.cell? ⟨g,p+2,none⟩=some (.int .i64 m)
 c3:w.cell? ⟨g,p+3,none⟩=some (.int .u8 (kd:Int))
 c4:w.cell? ⟨g,p+4,none⟩=some (.int .i64 node)
 c5:w.cell? ⟨g,p+5,none⟩=some (.int .i64 other)
 c6:w.cell? ⟨g,p+6,none⟩=some (.string name)
 c7:w.cell? ⟨g,p+7,none⟩=some (.string value)
theorem Eight.later {p:Nat} {b:Int} {node other:Int} (h:Eight w g p t b m kd node other name value) (hb:Below w.heap.size w w'):Eight w' g p t b m kd node other name value:=
 ⟨cellKept hb h.c0,cellKept hb h.c1,cellKept hb h.c2,cellKept hb h.c3,cellKept hb h.c4,cellKept hb h.c5,cellKept hb h.c6,cellKept hb h.c7⟩
theorem eight_at {xs:List OpX} (hc:∀j u,(cellsOf xs)[j]? =some u->w.cell? ⟨g,o+j,none⟩=some u) (i:Nat) (hi:i<xs.length) {b:Int} {node other:Int} (hx:xs[i]! =(t,b,m,kd,node,other,name,value)):Eight w g (o+i*8) t b m kd node other name value:=by
 have h:=fun c h8=>field_at hc i c hi h8
 rw [hx] at h
 exact ⟨h 0 zi,h 1 zi,h 2 zi,h 3 zi,h 4 zi,h 5 zi,h 6 zi,h 7 zi⟩
theorem stamp_at {xs:List OpX} (hc:∀j u,(cellsOf xs)[j]? =some u->w.cell? ⟨g,o+j,none⟩=some u) (i:Nat) (hi:i<xs.length):w.cell? ⟨g,o+i*8,none⟩=some (.int .i64 (xs[i]!).1)/\w.cell? ⟨g,o+i*8+1,none⟩=some (.int .i64 (xs[i]!).2.1):=
 ⟨field_at hc i 0 hi zi,field_at hc i 1 hi zi⟩
end Go.Proofs.YtpdbnnimdkfajaaGreatDoor
end
section
namespace Go.Proofs.YtpdbnnimdkfajaaGreatDoor
open Go.RowKit Go.Lib Go.Sort
def OpsIn (w:World) (ao:Option Addr) (xs:List OpX):Prop:=xs= []\/∃blk off,ao=some ⟨blk,off,none⟩/\∀j u,(cellsOf xs)[j]? =some u->w.cell? ⟨blk,off+j,none⟩=some u
theorem OpsIn.later {w w':World} {ao:Option Addr} {xs:List OpX} (h:OpsIn w ao xs) (hb:Below w.heap.size w w'):OpsIn w' ao xs:=by
 rcases h with h | ⟨g,o,h1,h2⟩
 ·exact .inl h
 exact .inr ⟨g,o,h1,fun j u hj=>cellKept hb (h2 j u hj)⟩
end Go.Proofs.YtpdbnnimdkfajaaGreatDoor
end
section
namespace Go.Proofs.YtpdbnnimdkfajaaGreatDoor
open Go.RowKit
theorem of_ok (n:Int) (w:World) (h1:4<=n) (h2:n<4294967300):
  Calls Tryz.prog 191 #[.int .i64 n] w fun e w'=>e= .returned (.tuple #[.agg #[.int .i64 (n / 4),.int .i64 (n % 4)],.nilIface])/\Below w.heap.size w w':=by
 go_enter Tryz.func191,Tryz.ntmps191
 go_wp2_with (go_at_call 219;refine (check_ok _ _ _ zi zi zi zi).mono ?_;rintro e w1 ⟨rfl,hb⟩;obtain ⟨hc,hf⟩:=bcell hb)
 have c0:w1.cell? ⟨w.heap.size,0,none⟩=some (.int .i64 0):=zR
 have c1:w1.cell? ⟨w.heap.size,1,none⟩=some (.int .i64 0):=zR
 refine bodyPost_ret (v:=.tuple #[.agg #[.int .i64 (n / 4),.int .i64 (n % 4)],.nilIface]) yH rfl ⟨rfl,?_⟩
 exact ((((zg _ _).alloc zm _).trans (hb.mono zk)).setCell zm _).setCell zm _
end Go.Proofs.YtpdbnnimdkfajaaGreatDoor
end
section
namespace Go.Proofs.YtpdbnnimdkfajaaGreatDoor
open Go.Proofs.Tryz
open Go.RowKit
theorem tdiv_neg_le (n:Int) (h:n<0):n.tdiv 4<=0:=by
 have e:n.tdiv 4= -((-n).tdiv 4):=by rw [Int.neg_tdiv];omega
 have e2:(-n).tdiv 4=(-n) / 4:=Int.tdiv_eq_ediv_of_nonneg zi
 omega
theorem of_no_neg (n:Int) (w:World) (u:TypeId) (x:Value) (hg:w.cell? ⟨2,0,none⟩=some (.iface u x)) (hz:2<w.heap.size) (h:n<0) (h2: -9223372036854775808<=n):
  Calls prog 191 #[.int .i64 n] w fun e w'=>e= .returned (.tuple #[.agg #[.int .i64 0,.int .i64 0],.iface u x])/\Below w.heap.size w w':=by
 have hq:=tdiv_neg_le n h
 go_enter func191,ntmps191
 go_wp2_with fail
 refine (check_no _ _ _ (.iface u x) (by rw [uq _ _ _ yB,uq _ _ _ hz];exact hg) yB zi).mono ?_
 rintro e w1 ⟨rfl,hb⟩
 obtain ⟨hc,hf⟩:=bcell hb
 go_wp2
 have c0:w1.cell? ⟨w.heap.size,0,none⟩=some (.int .i64 0):=zR
 have c1:w1.cell? ⟨w.heap.size,1,none⟩=some (.int .i64 0):=zR
 refine bodyPost_ret (v:=.tuple #[.agg #[.int .i64 0,.int .i64 0],.iface u x]) yH rfl ⟨rfl,?_⟩
 exact ((((zg _ _).alloc zm _).trans (hb.mono zk)).setCell zm _).setCell zm _
theorem of_no_pos (n:Int) (w:World) (u:TypeId) (x:Value) (hg:w.cell? ⟨2,0,none⟩=some (.iface u x)) (hz:2<w.heap.size) (h:0<=n) (h2:n<4\/4294967300<=n) (h3:n<=9223372036854775807):
  Calls prog 191 #[.int .i64 n] w fun e w'=>e= .returned (.tuple #[.agg #[.int .i64 0,.int .i64 0],.iface u x])/\Below w.heap.size w w':=by
 have hq:¬(1<=n / 4/\n / 4<=1073741824/\0<=n % 4/\n % 4<4):=zi
 have H:Hid (¬(1<=n / 4/\n / 4<=1073741824/\0<=n % 4/\n % 4<4)):=hq
 clear hq h2
 go_enter func191,ntmps191
 go_wp2_with fail
 refine (check_no _ _ _ (.iface u x) (by rw [uq _ _ _ yB,uq _ _ _ hz];exact hg) yB H.o).mono ?_
 rintro e w1 ⟨rfl,hb⟩
 obtain ⟨hc,hf⟩:=bcell hb
 go_wp2
 have c0:w1.cell? ⟨w.heap.size,0,none⟩=some (.int .i64 0):=zR
 have c1:w1.cell? ⟨w.heap.size,1,none⟩=some (.int .i64 0):=zR
 refine bodyPost_ret (v:=.tuple #[.agg #[.int .i64 0,.int .i64 0],.iface u x]) yH rfl ⟨rfl,?_⟩
 exact ((((zg _ _).alloc zm _).trans (hb.mono zk)).setCell zm _).setCell zm _
theorem of_no (n:Int) (w:World) (u:TypeId) (x:Value) (hg:w.cell? ⟨2,0,none⟩=some (.iface u x)) (hz:2<w.heap.size) (h:n<4\/4294967300<=n) (h2: -9223372036854775808<=n) (h3:n<=9223372036854775807):
  Calls prog 191 #[.int .i64 n] w fun e w'=>e= .returned (.tuple #[.agg #[.int .i64 0,.int .i64 0],.iface u x])/\Below w.heap.size w w':=by
 by_cases hn:n<0
 ·exact of_no_neg n w u x hg hz hn h2
 exact of_no_pos n w u x hg hz zi h h3
end Go.Proofs.YtpdbnnimdkfajaaGreatDoor
end
section
namespace Go.Proofs.YtpdbnnimdkfajaaGreatDoor
open Go.Shelf
set_option maxRecDepth 100000
end Go.Proofs.YtpdbnnimdkfajaaGreatDoor
end
section
namespace Go.Proofs
open Go.Shelf
end Go.Proofs
end
section
namespace Go.Proofs.YtpdbnnimdkfajaaGreatDoor
open Go.RowKit
theorem cellsInt:Tryz.prog.cellsOf 3=1:=zj
