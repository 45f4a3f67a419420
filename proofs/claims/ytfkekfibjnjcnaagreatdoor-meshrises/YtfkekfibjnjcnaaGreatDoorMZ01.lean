import Derived.Test.YtfkekfibjnjcnaaGreatDoorMacA
import Derived.Test.YtfkekfibjnjcnaaGreatDoorProg
import Derived.Lib.Split
import Derived.Lib.Join
import Derived.Lib.ItoaNum
import Derived.WalkSpells
import Derived.Lib.Hide
import Derived.LaidEql
import Derived.LaidMore
import Derived.SevenTiedAt
import Derived.Lib.SmallJoins
import Derived.Lib.LaidU8
set_option linter.unusedSimpArgs false
set_option linter.unusedVariables false
set_option maxRecDepth 100000
set_option maxHeartbeats 64000000
namespace Go.Proofs.YtfkekfibjnjcnaaGreatDoor
open Go.Proofs.Tryz
variable {D:DataW Unit} {z:DataW Unit×List MemPlace} {t:Int} {a:Int×Int} {hx l name nm p1 p2 p3 p4 p5 value:List UInt8} {b k n:Nat} {v:Value} {w:World}
section
abbrev CLt (a b:Int×Int):Prop:=a.1<b.1\/(a.1=b.1/\a.2<b.2)
theorem clt_irrefl :¬CLt a a:=by unfold CLt;omega
theorem clt_trans {b c:Int×Int} (h:CLt a b) (k:CLt b c):CLt a c:=by unfold CLt at*;omega
theorem clt_total {b:Int×Int} (h:a≠b):CLt a b\/CLt b a:=by
 unfold CLt
 have:a.1≠b.1\/a.2≠b.2:=by
  rcases a with ⟨x,y⟩
  rcases b with ⟨z,t⟩
  simp only [ne_eq,Prod.mk.injEq] at h
  simp only
  omega
 omega
theorem cnlt {b:Int×Int} (h:¬CLt a b):b=a\/CLt b a:=by
 by_cases e:a=b
 ·exact .inl e.symm
 rcases clt_total e with h' | h'
 ·exact absurd h' h
 exact .inr h'
abbrev CKey:=Int×ByteArray
abbrev CMark:=ByteArray×(Int×Int)
abbrev CSta:=CKey->Option CMark
def noC:CSta:=fun _=>none
def goesC (f:CSta) (k:CKey) (c:CMark):Bool:=match f k with
 | none=>true
 | some o=>decide (CLt o.2 c.2)
def setC (f:CSta) (m:CKey×CMark):CSta:=if goesC f m.1 m.2 then fun k=>if k=m.1 then some m.2 else f k else f
def foldC (l:List (CKey×CMark)) (f:CSta):CSta:=l.foldl setC f
theorem foldC_snoc (l:List (CKey×CMark)) (m:CKey×CMark) (f:CSta):foldC (l++ [m]) f=setC (foldC l f) m:=by simp [foldC]
theorem setC_other {f:CSta} {m:CKey×CMark} {k:CKey} (h:k≠m.1):setC f m k=f k:=by
 unfold setC
 split
 ·exact if_neg h
 rfl
theorem setC_none {f:CSta} {m:CKey×CMark} (h:f m.1=none):setC f m m.1=some m.2:=by
 unfold setC goesC
 rw [h]
 simp
theorem setC_some {f:CSta} {m:CKey×CMark} {o:CMark} (h:f m.1=some o):setC f m m.1=if CLt o.2 m.2.2 then some m.2 else some o:=by
 unfold setC goesC
 rw [h]
 by_cases k:CLt o.2 m.2.2
 ·simp [k]
 simp [k,h]
def BestC (l:List (CKey×CMark)) (k:CKey) (r:Option CMark):Prop:=match r with
 | none=>∀c,(k,c)∉l
 | some c=>(k,c)∈l/\∀d,(k,d)∈l->¬CLt c.2 d.2
theorem bestC_fold (l:List (CKey×CMark)) (k:CKey):BestC l k (foldC l noC k):=by
 have key:∀(n:Nat) (l:List (CKey×CMark)),l.length=n->BestC l k (foldC l noC k):=by
  intro n
  induction n with
  | zero=>
   intro l hn
   obtain rfl:=vM.1 hn
   exact fun c hc=>by simp at hc
  | succ n ih=>
   intro l hn
   obtain ⟨s,m,rfl⟩:∃s m,l=s++ [m]:=by
    refine ⟨l.dropLast,l.getLast (by intro e;rw [e] at hn;cases hn),(List.dropLast_concat_getLast _).symm⟩
   have h:=ih s ql
   rw [foldC_snoc]
   by_cases hk:k=m.1
   ·subst hk
    cases hf:foldC s noC m.1 with
    | none=>
     rw [hf] at h
     rw [setC_none hf]
     refine ⟨zm,fun d hd=> ?_⟩
     rcases vv.1 hd with hd | hd
     ·exact absurd hd (h d)
     have e:(m.1,d)=m:=jC
     have e2:d=m.2:=xF
     rw [e2]
     exact clt_irrefl
    | some o=>
     rw [hf] at h
     rw [setC_some hf]
     by_cases hlt:CLt o.2 m.2.2
     ·rw [if_pos hlt]
      refine ⟨zm,fun d hd=> ?_⟩
      rcases vv.1 hd with hd | hd
      ·exact fun hc=>h.2 d hd (clt_trans hlt hc)
      have e:(m.1,d)=m:=jC
      have e2:d=m.2:=xF
      rw [e2]
      exact clt_irrefl
     rw [if_neg hlt]
     refine ⟨vN _ h.1,fun d hd=> ?_⟩
     rcases vv.1 hd with hd | hd
     ·exact h.2 d hd
     have e:(m.1,d)=m:=jC
     have e2:d=m.2:=xF
     rw [e2]
     exact hlt
   rw [setC_other hk]
   cases hf:foldC s noC k with
   | none=>
    rw [hf] at h
    intro c hc
    rcases vv.1 hc with hc | hc
    ·exact h c hc
    have e:(k,c)=m:=by simpa using hc
    exact hk xF
   | some o=>
    rw [hf] at h
    refine ⟨vN _ h.1,fun d hd=> ?_⟩
    rcases vv.1 hd with hd | hd
    ·exact h.2 d hd
    have e:(k,d)=m:=jC
    exact absurd xF hk
 exact key _ l rfl
def OneC (l:List (CKey×CMark)):Prop:=∀k c d,(k,c)∈l->(k,d)∈l->c.2=d.2->c=d
theorem bestC_one {l r:List (CKey×CMark)} {k:CKey} {x y:Option CMark} (hm:∀m,m∈l↔m∈r) (h1:OneC l) (hx:BestC l k x) (hy:BestC r k y):x=y:=by
 cases x with
 | none=>
  cases y with
  | none=>rfl
  | some d=>exact absurd ((hm _).2 hy.1) (hx d)
 | some c=>
  cases y with
  | none=>exact absurd ((hm _).1 hx.1) (hy c)
  | some d=>
   have a1:=hx.2 d ((hm _).2 hy.1)
   have a2:=hy.2 c ((hm _).1 hx.1)
   rcases cnlt a1 with e | e
   ·rw [h1 k c d hx.1 ((hm _).2 hy.1) e.symm]
   exact absurd e a2
theorem foldC_turned {l r:List (CKey×CMark)} (hm:∀m,m∈l↔m∈r) (h1:OneC l):foldC l noC=foldC r noC:=by
 funext k
 exact bestC_one hm h1 (bestC_fold l k) (bestC_fold r k)
end
section
abbrev KLt (a b:CKey):Prop:=a.1<b.1\/(a.1=b.1/\a.2.data.toList<b.2.data.toList)
theorem bytesExt {a b:ByteArray} (h:a.data.toList=b.data.toList):a=b:=by
 rcases a with ⟨⟨a⟩⟩
 rcases b with ⟨⟨b⟩⟩
 simp only at h
 rw [h]
theorem bytesTotal {a b:List UInt8} (h:a≠b):a<b\/b<a:=by
 by_cases h1:a<b
 ·exact .inl h1
 by_cases h2:b<a
 ·exact .inr h2
 exact absurd (List.le_antisymm (List.not_lt.1 h2) (List.not_lt.1 h1)) h
theorem klt_irrefl {a:CKey} :¬KLt a a:=by
 rintro (h | ⟨_,h⟩)
 ·omega
 exact List.lt_irrefl _ h
theorem klt_trans {a b c:CKey} (h:KLt a b) (k:KLt b c):KLt a c:=by
 rcases h with h | ⟨h1,h2⟩
 ·rcases k with k | ⟨k1,_⟩
  ·exact .inl zj
  exact .inl zj
 rcases k with k | ⟨k1,k2⟩
 ·exact .inl zj
 exact .inr ⟨zj,List.lt_trans h2 k2⟩
theorem klt_total {a b:CKey} (h:a≠b):KLt a b\/KLt b a:=by
 by_cases h1:a.1=b.1
 ·have h2:a.2.data.toList≠b.2.data.toList:=fun e=>h (Prod.ext h1 (bytesExt e))
  rcases bytesTotal h2 with k | k
  ·exact .inl (.inr ⟨h1,k⟩)
  exact .inr (.inr ⟨h1.symm,k⟩)
 by_cases h2:a.1<b.1
 ·exact .inl (.inl h2)
 exact .inr (.inl zj)
theorem rise_unique {α:Type} {R:α->α->Prop} (irr:∀a,¬R a a) (tr:∀a b c,R a b->R b c->R a c):∀ {L M:List α},L.Pairwise R->M.Pairwise R->(∀p,p∈L↔p∈M)->L=M
 | [],[],_,_,_=>rfl
 | [],b::r,_,_,h=>by have:=(h b).2 zm;simp at this
 | a::r,[],_,_,h=>by have:=(h a).1 zm;simp at this
 | a::r,b::s,hl,hm,h=>by
  obtain ⟨h1,h2⟩:=uv.1 hl
  obtain ⟨k1,k2⟩:=uv.1 hm
  have e:a=b:=by
   rcases vz.1 ((h a).1 zm) with e | ha
   ·exact e
   rcases vz.1 ((h b).2 zm) with e | hb
   ·exact e.symm
   exact absurd (tr _ _ _ (h1 b hb) (k1 a ha)) (irr a)
  subst e
  rw [rise_unique irr tr h2 k2 (fun p=> ?_)]
  constructor
  ·intro hp
   rcases vz.1 ((h p).1 (by simp [hp])) with e | hp'
   ·subst e;exact absurd (h1 p hp) (irr p)
   exact hp'
  intro hp
  rcases vz.1 ((h p).2 (by simp [hp])) with e | hp'
  ·subst e;exact absurd (k1 p hp) (irr p)
  exact hp'
theorem setC_goes {f:CSta} {m:CKey×CMark} (h:goesC f m.1 m.2=true):setC f m=fun k=>if k=m.1 then some m.2 else f k:=by unfold setC;rw [if_pos h]
theorem setC_stays {f:CSta} {m:CKey×CMark} (h:goesC f m.1 m.2=false):setC f m=f:=by unfold setC;rw [if_neg (by rw [h];simp)]
abbrev Mrk:=Int×ByteArray×ByteArray
abbrev keyM (m:Mrk):CKey:=(m.1,m.2.1)
structure IsMarks (f:CSta) (L:List Mrk):Prop where
 rise:L.Pairwise (fun a b=>KLt (keyM a) (keyM b))
 mem:∀p:Mrk,p∈L↔p.2.2.size≠0/\∃s,f (keyM p)=some (p.2.2,s)
theorem IsMarks.unique {f:CSta} {L M:List Mrk} (h:IsMarks f L) (k:IsMarks f M):L=M:=
 rise_unique (R:=fun a b=>KLt (keyM a) (keyM b)) (fun _=>klt_irrefl) (fun _ _ _=>klt_trans) h.rise k.rise (fun p=>(h.mem p).trans (k.mem p).symm)
structure Lists (f:CSta) (L:List (CKey×CMark)):Prop where
 rise:L.Pairwise (fun a b=>KLt a.1 b.1)
 mem:∀k c,(k,c)∈L↔f k=some c
def spotC (k:CKey):List (CKey×CMark)->Nat
 | []=>0
 | m::r=>if KLt m.1 k then spotC k r+1 else 0
theorem spotC_le (k:CKey):∀L:List (CKey×CMark),spotC k L<=L.length
 | []=>vm _
 | m::r=>by
  unfold spotC
  split
  ·have:=spotC_le k r;simp;exact this
  exact vD _
theorem spotC_ahead (k:CKey):∀(L:List (CKey×CMark)) (j:Nat) (m:CKey×CMark),j<spotC k L->L[j]? =some m->KLt m.1 k
 | [],j,m,h,_=>by simp [spotC] at h
 | x::r,j,m,h,e=>by
  unfold spotC at h
  split at h
  ·rename_i hx
   cases j with
   | zero=>simp only [List.getElem?_cons_zero,Option.some.injEq] at e;subst e;exact hx
   | succ j=>exact spotC_ahead k r j m zj yr
  omega
theorem spotC_stop (k:CKey):∀(L:List (CKey×CMark)) (m:CKey×CMark),L[spotC k L]? =some m->¬KLt m.1 k
 | [],m,e=>jb
 | x::r,m,e=>by
  unfold spotC at e
  split at e
  ·exact spotC_stop k r m yr
  rename_i hx
  simp only [List.getElem?_cons_zero,Option.some.injEq] at e
  subst e
  exact hx
theorem spotC_is (k:CKey) (L:List (CKey×CMark)) (i:Nat) (hi:i<=L.length) (h1:∀j m,j<i->L[j]? =some m->KLt m.1 k) (h2:∀m,L[i]? =some m->¬KLt m.1 k):spotC k L=i:=by
 have hle:=spotC_le k L
 rcases Nat.lt_trichotomy (spotC k L) i with h | h | h
 ·have e:=vj (l:=L) (i:=spotC k L) zj
  exact absurd (h1 _ _ h e) (spotC_stop k L _ e)
 ·exact h
 have e:=vj (l:=L) (i:=i) zj
 exact absurd (spotC_ahead k L i _ h e) (h2 _ e)
def laidC (L:List (CKey×CMark)) (m:CKey×CMark):Bool:=match L[spotC m.1 L]? with
 | none=>true
 | some o=>if o.1=m.1 then decide (CLt o.2.2 m.2.2) else true
theorem Lists.at_spot {f:CSta} {L:List (CKey×CMark)} (h:Lists f L) {k:CKey} {c:CMark} (hf:f k=some c):L[spotC k L]? =some (k,c):=by
 obtain ⟨i,hi,e⟩:=uB ((h.mem k c).2 hf)
 have he:L[i]? =some (k,c):=by rw [vj hi,e]
 rw [spotC_is k L i zj (fun j m hj hm=> ?_) (fun m hm=> ?_)]
 ·exact he
 ·have hjl:j<L.length:=by omega
  rw [vj hjl] at hm
  cases hm
  have:=uh.1 h.rise j i hjl hi hj
  rwa [e] at this
 rw [he] at hm
 cases hm
 exact klt_irrefl
theorem Lists.laid {f:CSta} {L:List (CKey×CMark)} (h:Lists f L) (m:CKey×CMark):laidC L m=goesC f m.1 m.2:=by
 unfold laidC goesC
 cases hf:f m.1 with
 | some o=>
  rw [h.at_spot hf]
  simp
 | none=>
  cases hs:L[spotC m.1 L]? with
  | none=>rfl
  | some o=>
   have hne:o.1≠m.1:=fun e=>by
    have:=(h.mem o.1 o.2).1 (vx hs)
    rw [e,hf] at this
    cases this
   simp [hne]
theorem mem_lay {α:Type} (L:List α) (i:Nat) (x p:α):p∈L.take i++x::L.drop i↔p=x\/p∈L:=by
 rw [vv,vz]
 constructor
 ·rintro (h | h | h)
  ·exact .inr (uz h)
  ·exact .inl h
  exact .inr (uZ h)
 rintro (h | h)
 ·exact .inr (.inl h)
 rw [<-vX i L] at h
 rcases vv.1 h with h | h
 ·exact .inl h
 exact .inr (.inr h)
theorem Lists.fresh {f:CSta} {L:List (CKey×CMark)} (h:Lists f L) {m:CKey×CMark} (hf:f m.1=none):Lists (setC f m) (L.take (spotC m.1 L)++m::L.drop (spotC m.1 L)):=by
 refine ⟨?_,fun k c=> ?_⟩
 ·have hr:=h.rise
  rw [<-vX (spotC m.1 L) L] at hr
  obtain ⟨r1,r2,r3⟩:=Za.1 hr
  refine Za.2 ⟨r1,uv.2 ⟨fun b hb=> ?_,r2⟩,fun a ha b hb=> ?_⟩
  ·obtain ⟨j,hj,rfl⟩:=uB hb
   rw [ua] at hj
   rw [List.getElem_drop]
   have h0:=vj (l:=L) (i:=spotC m.1 L) zj
   have hns:=spotC_stop m.1 L _ h0
   have hne:L[spotC m.1 L].1≠m.1:=fun e=>by
    have:=(h.mem L[spotC m.1 L].1 L[spotC m.1 L].2).1 (List.getElem_mem _)
    rw [e,hf] at this
    cases this
   have hgt:KLt m.1 L[spotC m.1 L].1:=by
    rcases klt_total hne with q | q
    ·exact absurd q hns
    exact q
   cases j with
   | zero=>exact hgt
   | succ j=>exact klt_trans hgt (uh.1 h.rise (spotC m.1 L) (spotC m.1 L+(j+1)) zj zj zj)
  obtain ⟨j,hj,rfl⟩:=uB ha
  rw [vP] at hj
  have hjm:KLt (L.take (spotC m.1 L))[j].1 m.1:=by
   rw [List.getElem_take]
   exact spotC_ahead m.1 L j _ zj (vj zj)
  rcases vz.1 hb with e | hb
  ·rw [e];exact hjm
  exact r3 _ (List.getElem_mem _) b hb
 rw [mem_lay]
 by_cases hk:k=m.1
 ·subst hk
  rw [setC_none hf]
  constructor
  ·rintro (e | e)
   ·rw [<-e]
   have:=(h.mem m.1 c).1 e
   rw [hf] at this
   cases this
  intro e
  cases e
  exact .inl rfl
 rw [setC_other hk,h.mem]
 constructor
 ·rintro (e | e)
  ·exact absurd xF hk
  exact e
 exact .inr
theorem Lists.first {f:CSta} {L:List (CKey×CMark)} (h:Lists f L) {i:Nat} {m:CKey×CMark} (hi:L[i]? =some m):f m.1=some m.2:=(h.mem m.1 m.2).1 (vx hi)
end
section
open Go Go.Maps
def encK (k:CKey):Value:=.agg #[.int .i64 k.1,.string k.2]
theorem encK_inj {p q:CKey} (h:encK p=encK q):p=q:=by
 obtain ⟨a,s⟩:=p
 obtain ⟨a',s'⟩:=q
 simp [encK] at h
 obtain ⟨rfl,rfl⟩:=h
 rfl
def encC (c:CMark):Value:=.agg #[.string c.1,.int .i64 c.2.1,.int .i64 c.2.2]
theorem encC_inj {p q:CMark} (h:encC p=encC q):p=q:=by
 obtain ⟨s,a,b⟩:=p
 obtain ⟨s',a',b'⟩:=q
 simp [encC] at h
 obtain ⟨rfl,rfl,rfl⟩:=h
 rfl
def zeroC:CMark:=(⟨#[]⟩,0,0)
def datC (c:CMark):DataW Unit:=.agg [.lit (.string c.1.data.toList),.lit (.int .i64 c.2.1),.lit (.int .i64 c.2.2)]
theorem datC_inj {p q:CMark} (h:datC p=datC q):p=q:=by
 obtain ⟨⟨⟨s⟩⟩,a,b⟩:=p
 obtain ⟨⟨⟨s'⟩⟩,a',b'⟩:=q
 simp [datC] at h
 obtain ⟨rfl,rfl,rfl⟩:=h
 rfl
def mrkL (l:List Value):Option (DataW Unit×List MemPlace):=match l with
 | [.string s,.int .i64 a,.int .i64 b]=>some (datC (s,a,b),[])
 | _=>none
def mrkR (v:Value):Option (DataW Unit×List MemPlace):=match v with
 | .agg cs=>mrkL cs.toList
 | _=>none
theorem mrkR_mk (c:CMark):mrkR (encC c)=some (datC c,[]):=rfl
theorem mrkL_inv {l:List Value} (h:mrkL l=some z):∃c:CMark,l= [.string c.1,.int .i64 c.2.1,.int .i64 c.2.2]/\z=(datC c,[]):=by
 unfold mrkL at h
 split at h
 ·rename_i s a b
  cases h
  exact ⟨(s,a,b),rfl,rfl⟩
 cases h
theorem mrkR_inv (h:mrkR v=some z):∃c,v=encC c/\z=(datC c,[]):=by
 unfold mrkR at h
 split at h
 ·rename_i cs
  obtain ⟨c,e,rfl⟩:=mrkL_inv h
  refine ⟨c,?_,rfl⟩
  unfold encC
  rw [<-e]
 cases h
theorem less_list:∀(x y:List UInt8),Op.bytesLess x y=decide (x<y)
 | [],[]=>vh
 | _::_,[]=>vh
 | [],_::_=>vh
 | a::x,b::y=>by
  rw [Op.bytesLess,less_list x y]
  simp only [List.cons_lt_cons_iff]
  by_cases h1:a<b<;>by_cases h2:a=b<;>by_cases h3:x<y<;>simp [h1,h2,h3]
theorem less_bytes (a b:ByteArray):Op.bytesLess a.toList b.toList=decide (a.data.toList<b.data.toList):=by
 rw [less_list,vE,vE]
def WfK (k:CKey):Prop:=(Lit.int .i64 k.1).wf=true/\k.2.size<=maxLen
def klit (k:CKey):Lit:=.string (keyBytes [.int .i64 k.1,.string k.2.data.toList])
section
variable {P:Program} {K I S:TypeId} {f g:Field}
theorem keyLits_struct {fs:Array Field} (hu:P.underlying K=some (.struct fs)) (d:Nat) (cs:List Value):P.keyLits (d+1) K cs=if cs.length=P.cellsOf K/\fs.all (·.name != "_")=true then (fs.toList.mapM fun f=>P.keyLits d f.type ((cs.drop f.offset).take (P.cellsOf f.type))).map List.flatten else none:=by
 conv=>lhs;unfold Program.keyLits
 simp only [hu]
theorem keyLits_int (hI:P.underlying I=some (.int .i64)) (d:Nat) (v:Value):P.keyLits (d+1) I [v]=match v with | .int .i64 n=>if (Lit.int .i64 n).wf=true then some [.int .i64 n] else none | _=>none:=by
 conv=>lhs;unfold Program.keyLits
 simp only [hI]
 cases v<;>try rfl
 rename_i q n
 cases q<;>simp
theorem keyLits_str (hS:P.underlying S=some .string) (d:Nat) (v:Value):P.keyLits (d+1) S [v]=match v with | .string s=>if s.size<=maxLen then some [.string s.data.toList] else none | _=>none:=by
 conv=>lhs;unfold Program.keyLits
 simp only [hS]
 cases v<;>rfl
theorem key_mkP (hu:P.underlying K=some (.struct #[f,g])) (f1:f.type=I) (f2:f.offset=0) (f3:(f.name != "_")=true) (g1:g.type=S) (g2:g.offset=1) (g3:(g.name != "_")=true) (hI:P.underlying I=some (.int .i64)) (hS:P.underlying S=some .string) (cK:P.cellsOf K=2) (cI:P.cellsOf I=1) (cS:P.cellsOf S=1) (hT:P.keyType K=true) (e:Nat) (he:P.types.size=e+1) {k:CKey} (h:WfK k):keyOf P K (encK k)=some (klit k):=by
 obtain ⟨h1,h2⟩:=h
 have hf:(encK k).formed P K=true:=by simp [Value.formed,encK,hu,cK]
 unfold keyOf
 rw [hu]
 dsimp only
 rw [hT,hf]
 simp only [Bool.and_self,if_true]
 rw [keyLits_struct hu,he]
 simp [encK,Value.cells,cK,cI,cS,f1,f2,f3,g1,g2,g3,keyLits_int hI,keyLits_str hS,h1,h2,klit]
theorem key_invP (hw:(match P.underlying K with | some (.array _ _) | some (.struct _)=>true | _=>false)=true) (hu:P.underlying K=some (.struct #[f,g])) (f1:f.type=I) (f2:f.offset=0) (g1:g.type=S) (g2:g.offset=1) (hI:P.underlying I=some (.int .i64)) (hS:P.underlying S=some .string) (cK:P.cellsOf K=2) (cI:P.cellsOf I=1) (cS:P.cellsOf S=1) (e:Nat) (he:P.types.size=e+1) {l:Lit} (h:keyOf P K v=some l):∃k,WfK k/\v=encK k/\l=klit k:=by
 obtain ⟨xs,L,rfl,h1,rfl⟩:=keyOf_top hw h
 rw [keyLits_struct hu,he] at h1
 split at h1
 ·rename_i hc
  obtain ⟨a,b,hx⟩:∃a b,xs.toList= [a,b]:=by
   rw [cK] at hc
   have h2:=hc.1
   match hl:xs.toList,h2 with
   | [a,b],_=>exact ⟨a,b,rfl⟩
  rw [hx] at h1
  simp only [List.mapM_cons,List.mapM_nil,f1,f2,g1,g2,cI,cS,uP,List.take,List.drop,Option.map_eq_some_iff,keyLits_int hI,keyLits_str hS] at h1
  cases a<;>simp at h1
  rename_i q n
  cases q<;>simp at h1
  cases b<;>simp at h1
  rename_i s
  by_cases hwf:(Lit.int .i64 n).wf=true
  ·by_cases hsz:s.size<=maxLen
   ·simp [hwf,hsz] at h1
    subst h1
    refine ⟨(n,s),⟨hwf,hsz⟩,?_,rfl⟩
    unfold encK
    congr 1
    rw [<-Array.toList_inj,hx]
   simp [hwf,hsz] at h1
  simp [hwf] at h1
 cases h1
end
theorem keyRow:143<prog.types.size:=of_decide_eq_true zk
theorem keyWide:(match prog.underlying 143 with | some (.array _ _) | some (.struct _)=>true | _=>false)=true:=zk
theorem keyOut:laidOutB prog=true:=zk
theorem lawK:Keyed prog 143:=Keyed.of_law (deep_law_laid keyOut (m:=2) zj keyRow zk keyWide)
theorem keyIs:prog.keyType 143=true:=zk
theorem keyCells:prog.cellsOf 143=2:=zk
theorem keyCellsI:prog.cellsOf 3=1:=zk
theorem keyCellsS:prog.cellsOf 9=1:=zk
theorem keySize:∃e,prog.types.size=e+1:=Nat.exists_eq_succ_of_ne_zero (by have:=keyRow;omega)
theorem key_mk {k:CKey} (h:WfK k):keyOf prog 143 (encK k)=some (klit k):=by
 obtain ⟨e,he⟩:=keySize
 exact key_mkP underlying143 rfl rfl zt rfl rfl zt underlying3 underlying9 keyCells keyCellsI keyCellsS keyIs e he h
theorem key_inv {l:Lit} (h:keyOf prog 143 v=some l):∃k,WfK k/\v=encK k/\l=klit k:=by
 obtain ⟨e,he⟩:=keySize
 exact key_invP keyWide underlying143 rfl rfl rfl rfl underlying3 underlying9 keyCells keyCellsI keyCellsS e he h
theorem klit_ne {a b:CKey} (ha:WfK a) (hb:WfK b) (h:a≠b):klit a≠klit b:=fun e=>h (encK_inj (lawK.inj (key_mk ha) (by rw [e];exact key_mk hb)))
theorem klit_is {k:CKey} :WideAt.IsKeyLit (klit k):=trivial
theorem same_klit {a b:CKey} (ha:WfK a) (hb:WfK b):Lit.sameKey (klit a) (klit b)=decide (a=b):=by
 by_cases h:a=b
 ·subst h
  rw [WideAt.sameKey_self klit_is]
  simp
 rw [sameKey_ne (klit_ne ha hb h)]
 simp [h]
theorem wf_i64 {k:Int} (h0: -2^63<=k) (h1:k<2^63):(Lit.int .i64 k).wf=true:=by
 have e1:IntKind.i64.min= -2^63:=zt
 have e2:IntKind.i64.max=2^63 - 1:=zt
 simp only [Lit.wf,e1,e2,uQ,decide_eq_true_eq]
 omega
theorem wfK_of {k:CKey} (h0: -2^63<=k.1) (h1:k.1<2^63) (h2:k.2.size<=1000000):WfK k:=⟨wf_i64 h0 h1,zw⟩
def ReadsC (D:DataW Unit) (f:CSta):Prop:=∀k,WfK k->match f k with
 | none=>has D (klit k)=false
 | some c=>∀z,D.atKey (klit k) z=datC c
theorem ReadsC.gone {f:CSta} (h:ReadsC D f) {k:CKey} (hk:WfK k) (hf:f k=none):has D (klit k)=false:=by
 have:=h k hk;rw [hf] at this;exact this
theorem ReadsC.held {f:CSta} (h:ReadsC D f) {k:CKey} (hk:WfK k) {c:CMark} (hf:f k=some c) (z:DataW Unit):D.atKey (klit k) z=datC c:=by
 have:=h k hk;rw [hf] at this;exact this z
theorem ReadsC.has {D:DataW Unit} {f:CSta} (h:ReadsC D f) {k:CKey} (hk:WfK k):Maps.has D (klit k)=(f k).isSome:=by
 cases hf:f k with
 | none=>rw [h.gone hk hf];rfl
 | some p=>rw [has_true_of_atKey (h.held hk hf)];rfl
theorem ReadsC.at {f:CSta} (h:ReadsC D f) {k:CKey} (hk:WfK k):D.atKey (klit k) (datC zeroC)=datC ((f k).getD zeroC):=by
 cases hf:f k with
 | none=>rw [atKey_of_not_has (h.gone hk hf)];rfl
 | some p=>rw [h.held hk hf];rfl
theorem ReadsC.got {f:CSta} (h:ReadsC D f) {k:CKey} {c:CMark} (hk:WfK k) (hat:∀z,D.atKey (klit k) z=datC c):f k=some c:=by
 have hh:=h.has hk
 rw [has_true_of_atKey hat] at hh
 cases hf:f k with
 | none=>rw [hf] at hh;cases hh
 | some p=>
  have:=h.held hk hf .nil
  rw [hat] at this
  rw [datC_inj this]
theorem readsC_put {f:CSta} (h:ReadsC D f) (hD:IsMap D) {k:CKey} (hk:WfK k) (c:CMark):ReadsC (D.put (klit k) (datC c)) (fun x=>if x=k then some c else f x):=by
 intro x hx
 dsimp only
 by_cases e:x=k
 ·subst e
  rw [if_pos rfl]
  exact fun z=>atKey_put_same hD klit_is _ _
 rw [if_neg e]
 cases hf:f x with
 | none=>rw [has_put_other (klit_ne hx hk e)];exact h.gone hx hf
 | some q=>intro z;rw [atKey_put_other (klit_ne hx hk e)];exact h.held hx hf z
def GoodC (f:CSta):Prop:=∀k c,f k=some c->WfK k
theorem goodC_none:GoodC noC:=fun k c h=>yR
theorem GoodC.put {f:CSta} (h:GoodC f) {k:CKey} (hk:WfK k) (c:CMark):GoodC (fun x=>if x=k then some c else f x):=by
 intro x d hx
 dsimp only at hx
 split at hx
 ·rename_i e;rw [e];exact hk
 exact h x d hx
structure CMapAt (w:World) (b n:Nat) (f:CSta):Prop where
 reads:∃D,w.ownsMap prog 143 mrkR b n D/\ReadsC D f
 good:GoodC f
theorem CMapAt.lt {w:World} {b n:Nat} {f:CSta} (h:CMapAt w b n f):b<w.heap.size:=by
 obtain ⟨D,h,_⟩:=h.reads;exact h.lt
theorem CMapAt.mono {w:World} {b n n':Nat} {f:CSta} (h:CMapAt w b n f) (hn:n<=n'):CMapAt w b n' f:=by
 obtain ⟨⟨D,h,r⟩,g⟩:=h;exact ⟨⟨D,h.mono hn,r⟩,g⟩
theorem CMapAt.same {w':World} {f:CSta} (h:CMapAt w b n f) (e:w'.heap[b]? =w.heap[b]?):CMapAt w' b n f:=by
 obtain ⟨⟨D,⟨es,clock,hb,F⟩,r⟩,g⟩:=h
 exact ⟨⟨D,⟨es,clock,e.trans hb,F⟩,r⟩,g⟩
theorem cmapAt_made (w:World):CMapAt (w.alloc (.map #[] 0)) w.heap.size 0 noC:=
 ⟨⟨_,World.ownsMap_made w prog 143 mrkR,fun _ _=>rfl⟩,goodC_none⟩
theorem zeroCell (w:World):(zeroValue 145).run prog w= .ok (encC zeroC) w:=zeroValue145 w
theorem CMapAt.look {f:CSta} (h:CMapAt w b n f) {k:CKey} (hk:WfK k):
  (Instr.lookup 140 (.map (some b)) (encK k) true).run prog w= .ok (.tuple #[encC ((f k).getD zeroC),.bool (f k).isSome]) w:=by
 obtain ⟨⟨D,h,r⟩,_⟩:=h
 obtain ⟨v,ps,hrun,hv⟩:=h.look_ok lawK underlying140 (zeroCell w) (mrkR_mk zeroC) (key_mk hk)
 obtain ⟨p,rfl,hp⟩:=mrkR_inv hv
 rw [r.at hk,Prod.mk.injEq] at hp
 rw [hrun,r.has hk,datC_inj hp.1]
theorem CMapAt.store {w:World} {b n:Nat} {f:CSta} (h:CMapAt w b n f) (hn:n<maxLen) {k:CKey} (hk:WfK k) (c:CMark):
  ∃w',(Instr.mapUpdate 140 (.map (some b)) (encK k) (encC c)).run prog w= .ok () w'/\CMapAt w' b (n+1) (fun x=>if x=k then some c else f x)/\w.mapTurned w' b:=by
 obtain ⟨⟨D,h,r⟩,g⟩:=h
 obtain ⟨w',hrun,h',ht⟩:=h.store lawK underlying140 hn (key_mk hk) (mrkR_mk c)
 exact ⟨w',hrun,⟨⟨_,h',readsC_put r h.isMap hk c⟩,g.put hk c⟩,ht⟩
end
section
open Go Go.Maps
def AllM (f:CSta) (ps:List Mrk):Prop:=(ps.map keyM).Nodup/\∀p:Mrk,p∈ps↔p.2.2.size≠0/\∃s,f (keyM p)=some (p.2.2,s)
theorem AllM.marks {f:CSta} {ps qs:List Mrk} (h:AllM f ps) (hp:qs.Perm ps) (hs:qs.Pairwise (fun a b=>¬KLt (keyM b) (keyM a))):IsMarks f qs:=by
 refine ⟨?_,fun p=>(hp.mem_iff).trans (h.2 p)⟩
 have hn:(qs.map keyM).Nodup:=(hp.map _).nodup_iff.2 h.1
 have hn':qs.Pairwise (fun a b=>keyM a≠keyM b):=List.pairwise_map.1 hn
 exact (hs.and hn').imp (fun {a b} h=>by
  rcases klt_total h.2 with q | q
  ·exact q
  ·exact absurd q h.1)
def CollM (f:CSta) (left:Lit->Bool) (ps:List Mrk):Prop:=
 (ps.map keyM).Nodup/\(∀p∈ps,(p.2.2.size≠0/\∃s,f (keyM p)=some (p.2.2,s))/\left (klit (keyM p))=false)/\∀k c,f k=some c->left (klit k)=false->c.1.size≠0->(k.1,k.2,c.1)∈ps
theorem collM_start {f:CSta} (hr:ReadsC D f) (hg:GoodC f):CollM f (has D) []:=
 ⟨Zj,fun p hp=>by simp at hp,fun k c hf hl _=>by rw [hr.has (hg k c hf),hf] at hl;cases hl⟩
theorem CollM.skip {f:CSta} {left:Lit->Bool} {ps:List Mrk} (h:CollM f left ps) (hg:GoodC f) {x:CKey} {c:CMark} (hx:WfK x) (hf:f x=some c) (hc:c.1.size=0):CollM f (fun z=>left z && !z.sameKey (klit x)) ps:=by
 obtain ⟨h1,h2,h3⟩:=h
 refine ⟨h1,fun p hp=>⟨(h2 p hp).1,?_⟩,fun k d hk hl hd=> ?_⟩
 ·show (left (klit (keyM p)) &&_)=false
  rw [(h2 p hp).2]
  rfl
 have hl:(left (klit k) && !Lit.sameKey (klit k) (klit x))=false:=hl
 rw [same_klit (hg k d hk) hx] at hl
 by_cases e:k=x
 ·subst e
  rw [hf] at hk
  cases hk
  exact absurd hc hd
 exact h3 k d hk (by simpa [e] using hl) hd
theorem CollM.step {f:CSta} {left:Lit->Bool} {ps:List Mrk} (h:CollM f left ps) (hg:GoodC f) {x:CKey} {c:CMark} (hx:WfK x) (hlx:left (klit x)=true) (hf:f x=some c) (hc:c.1.size≠0):CollM f (fun z=>left z && !z.sameKey (klit x)) (ps++ [(x.1,x.2,c.1)]):=by
 obtain ⟨h1,h2,h3⟩:=h
 refine ⟨?_,fun p hp=> ?_,fun k d hk hl hd=> ?_⟩
 ·rw [uq,uf]
  refine ⟨h1,zm,fun a ha b hb=> ?_⟩
  simp only [ug,uS,vA] at hb
  subst hb
  intro e
  obtain ⟨p,hp,rfl⟩:=vV.1 ha
  have:=(h2 p hp).2
  rw [e,show keyM (x.1,x.2,c.1)=x from rfl,hlx] at this
  cases this
 ·rcases vv.1 hp with hp | hp
  ·refine ⟨(h2 p hp).1,?_⟩
   show (left (klit (keyM p)) &&_)=false
   rw [(h2 p hp).2]
   rfl
  simp only [vA] at hp
  subst hp
  refine ⟨⟨hc,c.2,hf⟩,?_⟩
  show (left (klit x) && !Lit.sameKey (klit x) (klit x))=false
  rw [same_klit hx hx]
  simp
 have hl:(left (klit k) && !Lit.sameKey (klit k) (klit x))=false:=hl
 rw [same_klit (hg k d hk) hx] at hl
 by_cases e:k=x
 ·subst e
  rw [hf] at hk
  cases hk
  simp
 exact vN _ (h3 k d hk (by simpa [e] using hl) hd)
theorem CollM.all {f:CSta} {left:Lit->Bool} {ps:List Mrk} (h:CollM f left ps) (hl:∀kl,left kl=false):AllM f ps:=by
 refine ⟨h.1,fun p=>⟨fun hp=>(h.2.1 p hp).1,fun hp=> ?_⟩⟩
 obtain ⟨h0,s,hf⟩:=hp
 exact h.2.2 (keyM p) _ hf (hl _) h0
end
section
open Go
def hd (cur:List UInt8):List (List UInt8)->List (List UInt8)
 | []=>[cur]
 | p::ps=>(cur++p)::ps
theorem hd_length (a:List UInt8) (x:List (List UInt8)) (hx:x≠ []):(hd a x).length=x.length:=by
 cases x with
 | nil=>exact absurd rfl hx
 | cons p ps=>simp [hd]
def digitsL:Nat->List UInt8->Option Nat
 | n,[]=>some n
 | n,c::r=>if c.toNat<48\/57<c.toNat then none else digitsL (10*n+(c.toNat - 48)) r
def numN (D:Nat) (l:List UInt8):Option Nat:=if l.length<1\/D<l.length\/(l.getD 0 0).toNat=48/\1<l.length then none else digitsL 0 l
abbrev RV:=Option (Nat⊕(Nat×Nat×Nat×Nat))
def RV.text:RV:=none
def RV.ok (n0 n1 n2 n3:Nat):RV:=some (.inr (n0,n1,n2,n3))
end
section
open Go
def cutP (p:UInt8):List UInt8->List (List UInt8)
 | []=>[[]]
 | c::r=>if c=p then []::cutP p r else hd [c] (cutP p r)
theorem cutP_ne (p:UInt8) (l:List UInt8):cutP p l≠ []:=by
 cases l with
 | nil=>simp [cutP]
 | cons c r=>
  unfold cutP
  split
  ·simp
  cases cutP p r<;>simp [hd]
theorem cutP_dot (p:UInt8) (r:List UInt8):cutP p (p::r)= []::cutP p r:=by simp [cutP]
theorem cutP_other (p c:UInt8) (r:List UInt8) (h:c≠p):cutP p (c::r)=hd [c] (cutP p r):=by simp [cutP,h]
theorem cutP_length_le (p:UInt8) (l:List UInt8):(cutP p l).length<=l.length+1:=by
 induction l with
 | nil=>simp [cutP]
 | cons c r ih=>
  by_cases h:c=p
  ·subst h;rw [cutP_dot];simp;omega
  rw [cutP_other p c r h,hd_length _ _ (cutP_ne p r)];simp;omega
theorem splitP_zero (p:UInt8) (l:List UInt8):Lib.splitK [p] 0 0 l= [l]:=rfl
theorem splitP_nil (p:UInt8) (k:Nat):Lib.splitK [p] 0 k []= [[]]:=by
 cases k with
 | zero=>rfl
 | succ k=>unfold Lib.splitK;rfl
theorem splitP_ne (p:UInt8) (k:Nat) (l:List UInt8):Lib.splitK [p] 0 k l≠ []:=by
 cases k with
 | zero=>simp [Lib.splitK]
 | succ k=>unfold Lib.splitK;split<;>simp
theorem splitP_dot (p:UInt8) (k:Nat) (r:List UInt8):Lib.splitK [p] 0 (k+1) (p::r)= []::Lib.splitK [p] 0 k r:=by
 have h:Lib.index (p::r) [p]=0:=by rw [Lib.index_one];simp [Lib.indexByte]
 rw [Lib.splitK,if_neg (by rw [h];simp),h]
 simp
theorem splitP_other (p:UInt8) (k:Nat) (c:UInt8) (r:List UInt8) (hc:c≠p):Lib.splitK [p] 0 (k+1) (c::r)=hd [c] (Lib.splitK [p] 0 (k+1) r):=by
 have h:Lib.index (c::r) [p]=if Lib.index r [p]== -1 then -1 else Lib.index r [p]+1:=by
  rw [Lib.index_one,Lib.index_one];simp [Lib.indexByte,hc]
 have g:=Lib.index_ge r [p]
 by_cases h1:Lib.index r [p]= -1
 ·rw [if_pos (by simp [h1])] at h
  have e1:Lib.splitK [p] 0 (k+1) (c::r)= [c::r]:=by unfold Lib.splitK;simp [h]
  have e2:Lib.splitK [p] 0 (k+1) r= [r]:=by unfold Lib.splitK;simp [h1]
  rw [e1,e2];simp [hd]
 rw [if_neg (by simp [h1])] at h
 obtain ⟨n,hn⟩:∃n:Nat,Lib.index r [p]=n:=⟨(Lib.index r [p]).toNat,zj⟩
 rw [hn] at h
 have e1:Lib.splitK [p] 0 (k+1) (c::r)=(c::r.take n)::Lib.splitK [p] 0 k (r.drop (n+1)):=by
  rw [Lib.splitK,if_neg (by rw [h];simp;omega),h]
  have:((n:Int)+1).toNat=n+1:=zj
  simp [this]
 have e2:Lib.splitK [p] 0 (k+1) r=r.take n::Lib.splitK [p] 0 k (r.drop (n+1)):=by
  rw [Lib.splitK,if_neg yn,hn]
  simp
 rw [e1,e2];simp [hd]
theorem splitP_length (p:UInt8) (l:List UInt8):∀k,(Lib.splitK [p] 0 k l).length=min (k+1) (cutP p l).length:=by
 induction l with
 | nil=>intro k;rw [splitP_nil];simp [cutP]
 | cons c r ih=>
  intro k
  cases k with
  | zero=>
   have:=cutP_ne p (c::r)
   have:0<(cutP p (c::r)).length:=uN.2 this
   rw [splitP_zero];simp;omega
  | succ k=>
   by_cases h:c=p
   ·subst h
    rw [splitP_dot,cutP_dot]
    simp [ih k]
   rw [splitP_other p k c r h,cutP_other p c r h,hd_length _ _ (splitP_ne _ _ _),hd_length _ _ (cutP_ne _ _),ih (k+1)]
theorem splitP_eq (p:UInt8) (l:List UInt8):∀k,(cutP p l).length<=k+1->Lib.splitK [p] 0 k l=cutP p l:=by
 induction l with
 | nil=>intro k _;rw [splitP_nil];rfl
 | cons c r ih=>
  intro k hk
  by_cases h:c=p
  ·subst h
   rw [cutP_dot] at hk |-
   have h0:0<(cutP c r).length:=uN.2 (cutP_ne c r)
   cases k with
   | zero=>rw [vH] at hk;omega
   | succ k=>rw [splitP_dot,ih k qP]
  rw [cutP_other p c r h] at hk |-
  rw [hd_length _ _ (cutP_ne p r)] at hk
  cases k with
  | zero=>
   have:=ih 0 hk
   rw [splitP_zero] at this |-
   rw [<-this];simp [hd]
  | succ k=>rw [splitP_other p k c r h,ih (k+1) hk]
theorem cutP_append (p:UInt8) (a b:List UInt8) (h:p∉a):cutP p (a++p::b)=a::cutP p b:=by
 induction a with
 | nil=>simp [cutP]
 | cons c r ih=>
  have hc:c≠p:=fun e=>h (by simp [e])
  have:=ih (fun hm=>h (by simp [hm]))
  simp [cutP_other p c _ hc,this,hd]
theorem cutP_plain (p:UInt8) (a:List UInt8) (h:p∉a):cutP p a= [a]:=by
 induction a with
 | nil=>simp [cutP]
 | cons c r ih=>
  have hc:c≠p:=fun e=>h (by simp [e])
  have:=ih (fun hm=>h (by simp [hm]))
  simp [cutP_other p c _ hc,this,hd]
def joinP (p:UInt8):List (List UInt8)->List UInt8
 | []=>[]
 | [a]=>a
 | a::b::r=>a++p::joinP p (b::r)
theorem joinP_two (p:UInt8) (a:List UInt8) (x:List (List UInt8)) (h:x≠ []):joinP p (a::x)=a++p::joinP p x:=by
 cases x with
 | nil=>exact absurd rfl h
 | cons b r=>rfl
theorem joinP_hd (p:UInt8) (c:UInt8) (x:List (List UInt8)) (h:x≠ []):joinP p (hd [c] x)=c::joinP p x:=by
 cases x with
 | nil=>exact absurd rfl h
 | cons b r=>
  cases r with
  | nil=>simp [hd,joinP]
  | cons d r=>simp [hd,joinP]
theorem joinP_cut (p:UInt8) (l:List UInt8):joinP p (cutP p l)=l:=by
 induction l with
 | nil=>simp [cutP,joinP]
 | cons c r ih=>
  by_cases h:c=p
  ·subst h;rw [cutP_dot,joinP_two _ _ _ (cutP_ne c r),ih];rfl
  rw [cutP_other p c r h,joinP_hd p c _ (cutP_ne p r),ih]
theorem join_joinP (p:UInt8) (a0 a1 a2 a3 a4 a5 a6 a7:List UInt8):Lib.join [a0,a1,a2,a3,a4,a5,a6,a7] [p]=joinP p [a0,a1,a2,a3,a4,a5,a6,a7]:=by
 simp [Lib.join_cons,Lib.joinTail,joinP]
theorem digits_snoc (x:List UInt8) (c:UInt8):∀a,digitsL a (x++ [c])=(digitsL a x).bind fun v=>if c.toNat<48\/57<c.toNat then none else some (10*v+(c.toNat - 48)):=by
 induction x with
 | nil=>intro a;simp [digitsL]
 | cons d r ih=>
  intro a
  simp only [ux,digitsL]
  split
  ·rfl
  exact ih _
theorem digits_ge (x:List UInt8):∀a v,digitsL a x=some v->a<=v:=by
 induction x with
 | nil=>intro a v h;simp [digitsL] at h;omega
 | cons d r ih=>
  intro a v h
  simp only [digitsL] at h
  split at h
  ·cases h
  have:=ih _ _ h;omega
theorem digits_dec (n:Nat):digitsL 0 (Lib.decDigits n)=some n:=by
 induction n using Nat.strongRecOn with
 | _ n ih=>
  rw [Lib.decDigits]
  split
  ·rename_i h
   have e:(UInt8.ofNat (48+n)).toNat=48+n:=zl
   simp only [digitsL]
   rw [e,if_neg zj]
   simp
  rename_i h
  have e:(UInt8.ofNat (48+n % 10)).toNat=48+n % 10:=zl
  rw [digits_snoc,ih (n / 10) zj]
  simp only [Option.bind_some]
  rw [e,if_neg zj]
  congr 1
  omega
theorem dec_digit (n:Nat):∀c∈Lib.decDigits n,48<=c.toNat/\c.toNat<=57:=by
 induction n using Nat.strongRecOn with
 | _ n ih=>
  intro c hc
  rw [Lib.decDigits] at hc
  split at hc
  ·have e:(UInt8.ofNat (48+n)).toNat=48+n:=by simp;omega
   rw [vA] at hc
   subst hc
   rw [e];omega
  have e:(UInt8.ofNat (48+n % 10)).toNat=48+n % 10:=zl
  rcases vv.1 hc with h | h
  ·exact ih (n / 10) zj c h
  rw [vA] at h
  subst h
  rw [e];omega
theorem dec_ne (n:Nat):Lib.decDigits n≠ []:=by
 rw [Lib.decDigits]
 split<;>simp
theorem dec_head (n:Nat) (h:10<=n):((Lib.decDigits n).getD 0 0).toNat≠48:=by
 induction n using Nat.strongRecOn with
 | _ n ih=>
  rw [Lib.decDigits,dif_neg zj]
  have hne:=dec_ne (n / 10)
  have e:(Lib.decDigits (n / 10)++ [UInt8.ofNat (48+n % 10)]).getD 0 0=(Lib.decDigits (n / 10)).getD 0 0:=by
   cases hd:Lib.decDigits (n / 10) with
   | nil=>exact absurd hd hne
   | cons c r=>rfl
  rw [e]
  by_cases h2:n / 10<10
  ·rw [Lib.decDigits,dif_pos h2]
   have e:(UInt8.ofNat (48+n / 10)).toNat=48+n / 10:=zl
   show (UInt8.ofNat (48+n / 10)).toNat≠48
   rw [e];omega
  exact ih (n / 10) zj zj
theorem dec_len (D:Nat):∀n,n<10^(D+1)->(Lib.decDigits n).length<=D+1:=by
 induction D with
 | zero=>intro n h;rw [Lib.decDigits,dif_pos zj];simp
 | succ D ih=>
  intro n h
  rw [Lib.decDigits]
  split
  ·simp
  have:n / 10<10^(D+1):=by rw [Zq] at h;omega
  have:=ih _ this
  simp;omega
theorem numN_dec (D n:Nat) (h:n<10^(D+1)):numN (D+1) (Lib.decDigits n)=some n:=by
 unfold numN
 have h1:=uN.2 (dec_ne n)
 have h2:=dec_len D n h
 rw [if_neg,digits_dec]
 rintro (h3 | h3 | ⟨h3,h4⟩)
 ·omega
 ·omega
 by_cases h10:10<=n
 ·exact dec_head n h10 h3
 rw [Lib.decDigits,dif_pos zj] at h4
 simp at h4
theorem numN_itoa (D:Nat) (a:Int) (h0:0<=a) (h:a.toNat<10^(D+1)):numN (D+1) (Lib.itoa a)=some a.toNat:=by
 rw [Lib.itoa,if_neg zj];exact numN_dec D _ h
theorem itoa_noP (a:Int) (p:UInt8) (hp:57<p.toNat) (h0:0<=a):p∉Lib.itoa a:=by
 rw [Lib.itoa,if_neg zj]
 intro hm
 have:=dec_digit _ _ hm
 omega
theorem dec_of (x:List UInt8):∀n v,x.length=n->digitsL 0 x=some v->x≠ []->(x.getD 0 0).toNat≠48->Lib.decDigits v=x:=by
 intro n
 induction n generalizing x with
 | zero=>intro v hl _ hne;exact absurd (vM.1 hl) hne
 | succ n ih=>
  intro v hl hd hne hz
  obtain ⟨y,c,rfl⟩:∃y c,x=y++ [c]:=⟨x.dropLast,x.getLast hne,(List.dropLast_concat_getLast hne).symm⟩
  rw [digits_snoc] at hd
  cases hv:digitsL 0 y with
  | none=>rw [hv] at hd;cases hd
  | some u=>
   rw [hv] at hd
   simp only [Option.bind_some] at hd
   by_cases hc:c.toNat<48\/57<c.toNat
   ·rw [if_pos hc] at hd;cases hd
   rw [if_neg hc] at hd
   have hd:=Option.some.inj hd
   by_cases hy:y= []
   ·subst hy
    simp [digitsL] at hv
    subst hv
    rw [Lib.decDigits,dif_pos zj]
    have:48+v=c.toNat:=zj
    rw [this];simp
   have hy0:((y++ [c]).getD 0 0)=y.getD 0 0:=by
    cases y with
    | nil=>exact absurd rfl hy
    | cons b r=>rfl
   rw [hy0] at hz
   have hu:1<=u:=by
    cases y with
    | nil=>exact absurd rfl hy
    | cons b r=>
     simp only [digitsL] at hv
     split at hv
     ·cases hv
     have:=digits_ge _ _ _ hv
     have hz:b.toNat≠48:=hz
     omega
   have:=ih y u yY hv hy hz
   rw [Lib.decDigits,dif_neg zj,show v / 10=u by omega,this,show 48+v % 10=c.toNat by omega]
   simp
theorem dec_numN (D:Nat) (l:List UInt8) (v:Nat) (h:numN D l=some v):Lib.decDigits v=l:=by
 unfold numN at h
 split at h
 ·cases h
 rename_i hc
 have hne:l≠ []:=fun e=>hc (.inl (by rw [e];exact Nat.zero_lt_one))
 by_cases hz:(l.getD 0 0).toNat=48
 ·have hl:¬1<l.length:=fun e=>hc (.inr (.inr ⟨hz,e⟩))
  match l,hne with
  | [c],_=>
   have hz:c.toNat=48:=hz
   simp [digitsL,hz] at h
   subst h
   rw [Lib.decDigits,dif_pos zj]
   have:c=48:=UInt8.toNat_inj.1 hz
   subst this;rfl
  | _::_::_,_=>simp at hl
 exact dec_of l _ v rfl h hne hz
theorem numN_lt (l:List UInt8):∀a v,digitsL a l=some v->v<(a+1)*10^l.length:=by
 induction l with
 | nil=>intro a v h;simp [digitsL] at h;simp;omega
 | cons c r ih=>
  intro a v h
  simp only [digitsL] at h
  split at h
  ·cases h
  have:=ih _ _ h
  have h2:(10*a+(c.toNat - 48)+1)*10^r.length<=(10*(a+1))*10^r.length:=uj _ zj
  rw [vH,Zq]
  have h3:(a+1)*(10^r.length*10)=(10*(a+1))*10^r.length:=by rw [ZA (10^r.length) 10,<-Nat.mul_assoc,ZA (a+1) 10]
  omega
theorem numN_bound (D:Nat) (l:List UInt8) (v:Nat) (h:numN D l=some v):v<10^D:=by
 unfold numN at h
 split at h
 ·cases h
 rename_i hc
 have h1:=numN_lt l 0 v h
 have h2:10^l.length<=10^D:=Nat.pow_le_pow_right zt zj
 omega
def hexd (n:Nat):UInt8:=UInt8.ofNat (if n<10 then 48+n else 87+n)
def hexL:List UInt8->List UInt8
 | []=>[]
 | c::r=>hexd (c.toNat / 16)::hexd (c.toNat % 16)::hexL r
def hexV (c:UInt8):Option Nat:=if 48<=c.toNat/\c.toNat<=57 then some (c.toNat - 48) else if 97<=c.toNat/\c.toNat<=102 then some (c.toNat - 87) else none
def unhexL:List UInt8->Option (List UInt8)
 | []=>some []
 | [_]=>none
 | a::b::r=>
  match hexV a with
  | none=>none
  | some x=>match hexV b with
   | none=>none
   | some y=>(unhexL r).map fun l=>UInt8.ofNat (16*x+y)::l
theorem hexV_hexd:∀n:Fin 16,hexV (hexd n)=some n.1/\hexd n≠124:=yu
theorem hexd_hexV:∀c:Fin 256,∀x:Fin 16,hexV (UInt8.ofNat c)=some x.1->hexd x=UInt8.ofNat c:=yu
theorem hexV_lt (c:UInt8) (x:Nat) (h:hexV c=some x):x<16:=by
 unfold hexV at h
 split at h
 ·simp at h;omega
 split at h
 ·simp at h;omega
 cases h
theorem hexd_of (c:UInt8) (x:Nat) (h:hexV c=some x):hexd x=c:=by
 have:=hexd_hexV ⟨c.toNat,c.toNat_lt⟩ ⟨x,hexV_lt c x h⟩
 simp only [UInt8.ofNat_toNat] at this
 exact this h
theorem unhex_hex (l:List UInt8):unhexL (hexL l)=some l:=by
 induction l with
 | nil=>rfl
 | cons c r ih=>
  have hc:=c.toNat_lt
  have h1:=(hexV_hexd ⟨c.toNat / 16,zj⟩).1
  have h2:=(hexV_hexd ⟨c.toNat % 16,zj⟩).1
  simp only at h1 h2
  simp only [hexL,unhexL,h1,h2,ih,uX]
  congr 2
  rw [show 16*(c.toNat / 16)+c.toNat % 16=c.toNat by omega]
  simp
theorem hexL_noP (l:List UInt8):(124:UInt8)∉hexL l:=by
 induction l with
 | nil=>simp [hexL]
 | cons c r ih=>
  have hc:=c.toNat_lt
  have h1:=(hexV_hexd ⟨c.toNat / 16,zj⟩).2
  have h2:=(hexV_hexd ⟨c.toNat % 16,zj⟩).2
  simp only at h1 h2
  simp only [hexL,vz,not_or]
  exact ⟨fun e=>h1 e.symm,fun e=>h2 e.symm,ih⟩
theorem hexL_length (l:List UInt8):(hexL l).length=2*l.length:=by
 induction l with
 | nil=>rfl
 | cons c r ih=>simp [hexL,ih];omega
theorem unhex_odd (n:Nat):∀l:List UInt8,l.length=n->n % 2=1->unhexL l=none:=by
 induction n using Nat.strongRecOn with
 | _ n ih=>
  intro l hl hn
  match l,hl with
  | [],hl=>simp at hl;omega
  | [_],_=>rfl
  | a::b::r,hl=>
   simp only [vH] at hl
   simp only [unhexL]
   rw [ih (n - 2) zj r zj zj]
   split
   ·rfl
   split<;>rfl
theorem hex_unhex (n:Nat):∀l v:List UInt8,l.length=n->unhexL l=some v->hexL v=l:=by
 induction n using Nat.strongRecOn with
 | _ n ih=>
  intro l v hl h
  match l,hl,h with
  | [],_,h=>simp [unhexL] at h;subst h;rfl
  | [_],_,h=>simp [unhexL] at h
  | a::b::r,hl,h=>
   simp only [vH] at hl
   simp only [unhexL] at h
   cases ha:hexV a with
   | none=>rw [ha] at h;cases h
   | some x=>
    rw [ha] at h
    simp only at h
    cases hb:hexV b with
    | none=>rw [hb] at h;cases h
    | some y=>
     rw [hb] at h
     simp only at h
     cases hr:unhexL r with
     | none=>rw [hr] at h;cases h
     | some u=>
      rw [hr] at h
      have h:=Option.some.inj h
      subst h
      have h1:=hexV_lt _ _ ha
      have h2:=hexV_lt _ _ hb
      have e:(UInt8.ofNat (16*x+y)).toNat=16*x+y:=zl
      show hexL (UInt8.ofNat (16*x+y)::u)=a::b::r
      rw [hexL,e,show (16*x+y) / 16=x by omega,show (16*x+y) % 16=y by omega,hexd_of _ _ ha,hexd_of _ _ hb,ih (n - 2) zj r u zj hr]
def nameB (c:UInt8):Bool:=decide (97<=c.toNat/\c.toNat<=122\/48<=c.toNat/\c.toNat<=57\/c.toNat=45\/c.toNat=46)
def seenB (c:UInt8):Bool:=decide (32<=c.toNat/\c.toNat<=126)
def nameOk (l:List UInt8):Bool:=decide (1<=l.length) &&decide (l.length<=12) &&l.all nameB
def seenOk (l:List UInt8):Bool:=l.all seenB
def moveE (id node other:Int) (name value:List UInt8):Nat:=if node<2\/id<node\/other<0\/id<=other then 3 else if nameOk name=false then 4 else if value≠ [] then 3 else 0
def insE (id node other:Int) (name value:List UInt8):Nat:=if node<0\/id<=node\/other<0\/id<=other then 3 else if name≠ [] then 4 else if value.length≠1\/seenOk value=false then 3 else 0
def delE (id node other:Int) (name value:List UInt8):Nat:=if node<0\/id<=node\/other<0\/id<=other\/other=0 then 3 else if name≠ [] then 4 else if value≠ [] then 3 else 0
def setE (id node other:Int) (name value:List UInt8):Nat:=if node<0\/id<=node\/other≠0 then 3 else if nameOk name=false then 4 else if 12<value.length\/seenOk value=false then 3 else 0
def kindE (id:Int) (k:Nat) (node other:Int) (name value:List UInt8):Nat:=
 if k=109 then moveE id node other name value else if k=105 then insE id node other name value else if k=100 then delE id node other name value else if k=115 then setE id node other name value else 5
def opE (t b n:Int) (k:Nat) (node other:Int) (name value:List UInt8):Nat:=
 if 1<=t/\t<=1073741824/\0<=b/\b<4/\1<=n/\n<=400 then kindE (t*4+b) k node other name value else 2
theorem opE_zero {b n:Int} {node other:Int} (h:opE t b n k node other name value=0):
  1<=t/\t<=1073741824/\0<=b/\b<4/\1<=n/\n<=400/\(k=109\/k=105\/k=100\/k=115)/\0<=node/\node<=t*4+b/\0<=other/\other<=t*4+b/\(124:UInt8)∉name/\name.length<=12/\value.length<=12:=by
 have nm:nameOk name=true->(124:UInt8)∉name/\name.length<=12:=fun hn=>by
  unfold nameOk at hn
  simp only [uQ,decide_eq_true_eq] at hn
  refine ⟨fun hm=> ?_,hn.1.2⟩
  have:=Zl.1 hn.2 _ hm
  revert this;decide
 unfold opE at h
 split at h
 ·rename_i hc
  obtain ⟨h1,h2,h3,h4,h5,h6⟩:=hc
  unfold kindE at h
  split at h
  ·rename_i hk
   unfold moveE at h
   split at h
   ·cases h
   split at h
   ·cases h
   rename_i hn
   split at h
   ·cases h
   rename_i hv
   have hv:value= []:=Decidable.not_not.1 hv
   have:=nm ql
   exact ⟨h1,h2,h3,h4,h5,h6,.inl hk,zj,zj,zj,zj,this.1,this.2,jB⟩
  split at h
  ·rename_i hk
   unfold insE at h
   split at h
   ·cases h
   split at h
   ·cases h
   rename_i hn
   split at h
   ·cases h
   rename_i hv
   have hn:name= []:=Decidable.not_not.1 hn
   subst hn
   exact ⟨h1,h2,h3,h4,h5,h6,.inr (.inl hk),zj,zj,zj,zj,zm,zm,zj⟩
  split at h
  ·rename_i hk
   unfold delE at h
   split at h
   ·cases h
   split at h
   ·cases h
   rename_i hn
   split at h
   ·cases h
   rename_i hv
   have hn:name= []:=Decidable.not_not.1 hn
   have hv:value= []:=Decidable.not_not.1 hv
   subst hn hv
   exact ⟨h1,h2,h3,h4,h5,h6,.inr (.inr (.inl hk)),zj,zj,zj,zj,zm,zm,zm⟩
  split at h
  ·rename_i hk
   unfold setE at h
   split at h
   ·cases h
   split at h
   ·cases h
   rename_i hn
   split at h
   ·cases h
   have:=nm ql
   exact ⟨h1,h2,h3,h4,h5,h6,.inr (.inr (.inr hk)),zj,zj,zj,zj,this.1,this.2,zj⟩
  cases h
 cases h
def opTextL (t b n:Int) (k:Nat) (node other:Int) (name value:List UInt8):List UInt8:=
 joinP 124 [[UInt8.ofNat k],Lib.itoa t,Lib.itoa b,Lib.itoa n,Lib.itoa node,Lib.itoa other,name,hexL value]
abbrev Parts:=UInt8×Nat×Nat×Nat×Nat×Nat×List UInt8×List UInt8
def numsP (c:UInt8) (p1 p2 p3 p4 p5 nm hx:List UInt8):Option Parts:=
 match numN 10 p1 with
 | none=>none
 | some n1=>match numN 10 p2 with
  | none=>none
  | some n2=>match numN 10 p3 with
   | none=>none
   | some n3=>match numN 10 p4 with
    | none=>none
    | some n4=>match numN 10 p5 with
     | none=>none
     | some n5=>match unhexL hx with
      | none=>none
      | some v=>some (c,n1,n2,n3,n4,n5,nm,v)
def partsL (l:List UInt8):Option Parts:=
 match cutP 124 l with
 | [[c],p1,p2,p3,p4,p5,nm,hx]=>numsP c p1 p2 p3 p4 p5 nm hx
 | _=>none
theorem partsL_eight {c:UInt8} (h:cutP 124 l= [[c],p1,p2,p3,p4,p5,nm,hx]):partsL l=numsP c p1 p2 p3 p4 p5 nm hx:=by simp [partsL,h]
theorem partsL_not (h:(cutP 124 l).length≠8):partsL l=none:=by
 unfold partsL
 split
 ·rename_i e;simp [e] at h
 rfl
theorem partsL_kind {p0:List UInt8} (h:cutP 124 l= [p0,p1,p2,p3,p4,p5,nm,hx]) (h0:p0.length≠1):partsL l=none:=by
 unfold partsL
 split
 ·rename_i e;rw [e] at h;simp at h;rw [<-h.1] at h0;simp at h0
 rfl
theorem parts_text {b n:Int} {node other:Int} (h:opE t b n k node other name value=0):
  partsL (opTextL t b n k node other name value)=some (UInt8.ofNat k,t.toNat,b.toNat,n.toNat,node.toNat,other.toNat,name,value):=by
 obtain ⟨h1,h2,h3,h4,h5,h6,hk,h7,h8,h9,h10,hn,-,-⟩:=opE_zero h
 have hp:(57:Nat)<(124:UInt8).toNat:=zt
 have hk0:(124:UInt8)∉ [UInt8.ofNat k]:=by
  rcases hk with rfl | rfl | rfl | rfl<;>decide
 have hc:cutP 124 (opTextL t b n k node other name value)= [[UInt8.ofNat k],Lib.itoa t,Lib.itoa b,Lib.itoa n,Lib.itoa node,Lib.itoa other,name,hexL value]:=by
  unfold opTextL
  simp only [joinP]
  rw [cutP_append _ _ _ hk0,cutP_append _ _ _ (itoa_noP t _ hp zj),cutP_append _ _ _ (itoa_noP b _ hp zj),cutP_append _ _ _ (itoa_noP n _ hp zj),cutP_append _ _ _ (itoa_noP node _ hp zj),cutP_append _ _ _ (itoa_noP other _ hp zj),cutP_append _ _ _ hn,cutP_plain _ _ (hexL_noP value)]
 rw [partsL_eight hc]
 unfold numsP
 rw [numN_itoa 9 t zj zj,numN_itoa 9 b zj zj,numN_itoa 9 n zj zj,numN_itoa 9 node zj zj,numN_itoa 9 other zj zj,unhex_hex]
theorem text_parts {v:List UInt8} {c:UInt8} {n1 n2 n3 n4 n5:Nat} (h:partsL l=some (c,n1,n2,n3,n4,n5,nm,v)):opTextL n1 n2 n3 c.toNat n4 n5 nm v=l:=by
 have it:∀m:Nat,Lib.itoa (m:Int)=Lib.decDigits m:=fun m=>by rw [Lib.itoa,if_neg zj];rfl
 unfold partsL at h
 split at h
 ·rename_i c' p1 p2 p3 p4 p5 nm' hx hc
  unfold numsP at h
  split at h
  ·cases h
  rename_i m1 e1
  split at h
  ·cases h
  rename_i m2 e2
  split at h
  ·cases h
  rename_i m3 e3
  split at h
  ·cases h
  rename_i m4 e4
  split at h
  ·cases h
  rename_i m5 e5
  split at h
  ·cases h
  rename_i v' ev
  simp only [Option.some.injEq,Prod.mk.injEq] at h
  obtain ⟨rfl,rfl,rfl,rfl,rfl,rfl,rfl,rfl⟩:=h
  unfold opTextL
  rw [it,it,it,it,it,dec_numN _ _ _ e1,dec_numN _ _ _ e2,dec_numN _ _ _ e3,dec_numN _ _ _ e4,dec_numN _ _ _ e5,hex_unhex _ _ _ rfl ev]
  rw [UInt8.ofNat_toNat,<-hc,joinP_cut]
 cases h
end
section
open Go.RowKit
theorem byteAt (s:ByteArray) (k:Nat) (h:k<s.size):s.data.toList.drop k=s[k]::s.data.toList.drop (k+1):=by
 have hl:k<s.data.toList.length:=qO
 rw [uI hl]
 simp
 rfl
theorem dropEnd (s:ByteArray):s.data.toList.drop s.size= []:=by
 rw [List.drop_eq_nil_iff];simp
theorem pow_lt (k v:Nat) (h:v<10^k) (hk:k<18):v<100000000000000000:=by
 have:10^k<=10^17:=Nat.pow_le_pow_right zt zj
 omega
theorem pow_next (k v d:Nat) (h:v<10^k) (hd:d<10):10*v+d<10^(k+1):=by
 rw [Zq];omega
end
section
open Go.RowKit
theorem bcell {W w1:World} (hb:Below W.heap.size W w1):(∀b o,b<W.heap.size->w1.cell? ⟨b,o,none⟩=W.cell? ⟨b,o,none⟩)/\(∀b o,b<W.heap.size->w1.frozen? ⟨b,o,none⟩=W.frozen? ⟨b,o,none⟩):=
 ⟨fun b o h=>hb.cell (p:=⟨b,o,none⟩) h,fun b o h=>hb.frozen (p:=⟨b,o,none⟩) h⟩
theorem check_ok (t b:Int) (w:World) (h1:1<=t) (h2:t<=1073741824) (h3:0<=b) (h4:b<4):
  Calls prog 223 #[.agg #[.int .i64 t,.int .i64 b]] w fun e w'=>e= .returned .nilIface/\Below w.heap.size w w':=by
 go_enter func223,ntmps223
 go_wp2
 go_ret
 exact ⟨rfl,zh _ _⟩
theorem check_no (t b:Int) (w:World) (eb:Value) (hg:w.cell? ⟨0,0,none⟩=some eb) (hz:0<w.heap.size) (h:¬(1<=t/\t<=1073741824/\0<=b/\b<4)):
  Calls prog 223 #[.agg #[.int .i64 t,.int .i64 b]] w fun e w'=>e= .returned eb/\Below w.heap.size w w':=by
 by_cases h1:1<=t
 ·by_cases h2:t<=1073741824
  ·by_cases h3:0<=b
   ·have h4:4<=b:=by omega
    have d4:decide (b<4)=false:=zl
    clear h
    go_enter func223,ntmps223
    go_wp2
    go_ret
    exact ⟨rfl,zh _ _⟩
   have h4:b<0:=zj
   clear h h3
   go_enter func223,ntmps223
   go_wp2
   go_ret
   exact ⟨rfl,zh _ _⟩
  have h4:1073741824<t:=zj
  clear h h2
  go_enter func223,ntmps223
  go_wp2
  go_ret
  exact ⟨rfl,zh _ _⟩
 have h4:t<1:=zj
 clear h h1
 go_enter func223,ntmps223
 go_wp2
 go_ret
 exact ⟨rfl,zh _ _⟩
end
section
open Go.RowKit
theorem id_ok (t b:Int) (w:World) (h1:1<=t) (h2:t<=1073741824) (h3:0<=b) (h4:b<4):
  Calls prog 174 #[.agg #[.int .i64 t,.int .i64 b]] w fun e w'=>e= .returned (.tuple #[.int .i64 (t*4+b),.nilIface])/\Below w.heap.size w w':=by
 go_enter func174,ntmps174
 go_wp2_with (go_at_call 223;refine (check_ok _ _ _ h1 h2 h3 h4).mono ?_;rintro e w1 ⟨rfl,hb⟩;obtain ⟨hc,hf⟩:=bcell hb)
 go_ret2
 exact ⟨rfl,(zh _ _).trans (hb.mono zm)⟩
theorem id_no (t b:Int) (w:World) (u:TypeId) (x:Value) (hg:w.cell? ⟨0,0,none⟩=some (.iface u x)) (hz:0<w.heap.size) (h:¬(1<=t/\t<=1073741824/\0<=b/\b<4)):
  Calls prog 174 #[.agg #[.int .i64 t,.int .i64 b]] w fun e w'=>e= .returned (.tuple #[.int .i64 0,.iface u x])/\Below w.heap.size w w':=by
 have H:Hid (¬(1<=t/\t<=1073741824/\0<=b/\b<4)):=h
 clear h
 go_enter func174,ntmps174
 go_wp2_with fail
 refine (check_no t b _ (.iface u x) (by rw [Zn _ _ _ hz];exact hg) yU H.o).mono ?_
 rintro e w1 ⟨rfl,hb⟩
 obtain ⟨hc,hf⟩:=bcell hb
 go_wp2
 go_ret2
 exact ⟨rfl,(zh _ _).trans (hb.mono zm)⟩
end
section
open Go.RowKit
theorem of_ok (n:Int) (w:World) (h1:4<=n) (h2:n<4294967300):
  Calls prog 188 #[.int .i64 n] w fun e w'=>e= .returned (.tuple #[.agg #[.int .i64 (n / 4),.int .i64 (n % 4)],.nilIface])/\Below w.heap.size w w':=by
 go_enter func188,ntmps188
 go_wp2_with (go_at_call 223;refine (check_ok _ _ _ zj zj zj zj).mono ?_;rintro e w1 ⟨rfl,hb⟩;obtain ⟨hc,hf⟩:=bcell hb)
 have c0:w1.cell? ⟨w.heap.size,0,none⟩=some (.int .i64 0):=yc
 have c1:w1.cell? ⟨w.heap.size,1,none⟩=some (.int .i64 0):=yc
 refine bodyPost_ret (v:=.tuple #[.agg #[.int .i64 (n / 4),.int .i64 (n % 4)],.nilIface]) qa rfl ⟨rfl,?_⟩
 exact ((((zh _ _).alloc zm _).trans (hb.mono zl)).setCell zm _).setCell zm _
end
section
open Go.RowKit
def lessB (t b t' b':Int):Bool:=if t=t' then decide (b<b') else decide (t<t')
theorem less_any (t b t' b':Int) (w:World):
  Calls prog 87 #[.agg #[.int .i64 t,.int .i64 b],.agg #[.int .i64 t',.int .i64 b']] w fun e w'=>e= .returned (.bool (lessB t b t' b'))/\Below w.heap.size w w':=by
 unfold lessB
 by_cases h:t=t'
 ·have hd:(t !=t')=false:=by simp [h]
  rw [if_pos h]
  clear h
  go_enter func87,ntmps87
  go_wp2
  go_ret
  exact ⟨rfl,(zh _ _).alloc zm _⟩
 have hd:(t !=t')=true:=by simp [h]
 rw [if_neg h]
 clear h
 go_enter func87,ntmps87
 go_wp2
 go_ret
 exact ⟨rfl,(zh _ _).alloc zm _⟩
end
section
open Go.RowKit
end
section
open Go.RowKit
theorem cellsInt:prog.cellsOf 3=1:=zk
