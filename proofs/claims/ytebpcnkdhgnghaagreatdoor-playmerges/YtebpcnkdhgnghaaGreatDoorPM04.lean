import Derived.Test.YtebpcnkdhgnghaaGreatDoorMacB
import Derived.Sort.LotA
import Derived.Test.YtebpcnkdhgnghaaGreatDoorProg
import Derived.WalkSpells
import Derived.Shelf.SlLaysF0
import Derived.Shelf.Strings.OnBuilder
import Derived.Shelf.Small.Strs
import Derived.Shelf.Strconv.Itoa3
import Derived.Shelf.Strings.SplitShaped
import Derived.Lib.AppendIntMem
import Derived.Lib.ItoaLen
set_option linter.unusedSimpArgs false
set_option linter.unusedVariables false
set_option maxRecDepth 100000
section
namespace Go.Proofs.YtebpcnkdhgnghaaGreatDoor
open Go.Sort
variable {B a b i j k m n:Nat}
section
variable {β:Type} (lt:β→β→Bool)
def slt (x y:β×Nat):Bool:=lt x.1 y.1 ||(!lt y.1 x.1 &&decide (x.2<y.2))
def tlt (x y:β×Nat):Bool:=lt x.1 y.1
end
section
variable {β:Type} {lt:β→β→Bool}
theorem slt_false {x y:β×Nat} :slt lt x y=false↔lt x.1 y.1=false/\(lt y.1 x.1=true\/y.2<=x.2):=by
 unfold slt
 cases h1:lt x.1 y.1<;>cases h2:lt y.1 x.1<;>simp
theorem fZ (h:SWO lt):SWO (slt lt) where
 irrefl x:=by rw [slt_false];exact ⟨h.irrefl _,.inr zg⟩
 trans x y z h1 h2:=by
  have a1:¬slt lt x y=false:=by rw [h1];simp
  have a2:¬slt lt y z=false:=by rw [h2];simp
  rw [<-Bool.not_eq_false,slt_false];rw [slt_false] at a1 a2;rintro ⟨b1,b2⟩
  cases xy:lt x.1 y.1 with
  | true=>
   cases yz:lt y.1 z.1 with
   | true=>rw [h.trans _ _ _ xy yz] at b1;cases b1
   | false=>
    cases zy:lt z.1 y.1 with
    | true=>exact a2 ⟨yz,.inl zy⟩
    | false=>rw [h.ntrans _ _ _ b1 zy] at xy;cases xy
  | false=>
   cases yx:lt y.1 x.1 with
   | true=>exact a1 ⟨xy,.inl yx⟩
   | false=>
    have n1:¬y.2<=x.2:=fun e=>a1 ⟨xy,.inr e⟩
    cases yz:lt y.1 z.1 with
    | true=>rw [h.ntrans _ _ _ yx b1] at yz;cases yz
    | false=>
     cases zy:lt z.1 y.1 with
     | true=>exact a2 ⟨yz,.inl zy⟩
     | false=>
      have n2:¬z.2<=y.2:=fun e=>a2 ⟨yz,.inr e⟩
      rcases b2 with b2 | b2
      ·rw [h.ntrans _ _ _ zy yx] at b2;cases b2
      omega
 ntrans x y z h1 h2:=by
  rw [slt_false] at*;obtain ⟨xy,a1⟩:=h1;obtain ⟨yz,a2⟩:=h2;refine ⟨h.ntrans _ _ _ xy yz,?_⟩
  cases zx:lt z.1 x.1 with
  | true=>exact .inl rfl
  | false=>
   refine .inr ?_
   rcases a1 with yx | e1
   ·rw [h.ntrans _ _ _ yz zx] at yx;cases yx
   rcases a2 with zy | e2
   ·rw [h.ntrans _ _ _ zx xy] at zy;cases zy
   omega
theorem eU {x y:β×Nat} (h:y.2<x.2):slt lt x y=tlt lt x y:=by
 unfold slt tlt;have:decide (x.2<y.2)=false:=zq;simp [this]
theorem iD (h:SWO lt) {x y:β×Nat} (hx:slt lt x y=true):slt lt y x=false:=(fZ h).asymmA hx
end
section
variable {β:Type} [Inhabited β] {lt:β→β→Bool}
theorem ip (a:Nat):∀(j:Nat) (d:Array (β×Nat)),j<d.size->(∀p,a<=p->p<j->d[p]!.2<d[j]!.2)->insInner (tlt lt) a j d=insInner (slt lt) a j d
 | 0,d,_,_=>rfl
 | j+1,d,hj,h=>by
  unfold insInner;by_cases ha:a<j+1
  ·have e:slt lt d[j+1]! d[j]! =tlt lt d[j+1]! d[j]! :=eU (h j zj zj);rw [e];split
   ·refine ip a j _ (by rw [swp_size];omega) ?_;intro p hp hpj;rw [swp_get d hj zj,swp_get d hj zj];rw [if_neg zj,if_neg zj,if_pos rfl];exact h p hp zj
   rfl
  have e:decide (j+1>a)=false:=zq;simp [e]
theorem lH {α:Type} [Inhabited α] (lt:α->α->Bool) (a b i:Nat) (d:Array α) (h:i<b):insOuter lt a b i d=insOuter lt a b (i+1) (insInner lt a i d):=by
 rw [insOuter,if_pos h]
theorem iH (hS:SWO lt) (a b:Nat):∀(n i:Nat) (d:Array (β×Nat)),b - i=n->a<i->i<=b->b<=d.size->SortedIn (slt lt) a i d->(∀p q,a<=p->p<q->i<=q->q<b->d[p]!.2<d[q]!.2)->insOuter (tlt lt) a b i d=insOuter (slt lt) a b i d
 | 0,i,d,hn,_,hib,_,_,_=>by
  obtain rfl:i=b:=zj;rw [insOuter,if_neg zj,insOuter,if_neg zj]
 | n+1,i,d,hn,hai,hib,hb,hs,ht=>by
  have hlt:i<b:=zj;rw [lH _ _ _ _ _ hlt,lH _ _ _ _ _ hlt,ip a i d zj (fun p hp hpi=>ht p i hp hpi zg hlt)];have h1:=insInner_spec (fZ hS) swp_permIn permIn_refl permIn_trans a (i+1) i (Nat.lt_succ_self _) i d zj zg zj ⟨fun p q hap hpq hqi _ hq=>hs p q hap hpq zj,fun q h1 h2=>zj⟩;refine iH hS a b n (i+1) _ zj zj zj (by rw [h1.1.1];exact hb) h1.2 ?_;intro p q hap hpq hiq hqb;rw [h1.1.2.1 q (.inr zj)];by_cases hp:p<i+1
  ·exact permIn_all d _ a (i+1) (fun x=>x.2<d[q]!.2) zj h1.1 (fun r h1 h2=>ht r q h1 zj zj hqb) p hap hp
  rw [h1.1.2.1 p (.inr zj)];exact ht p q hap hpq zj hqb
theorem BT (hS:SWO lt) (d:Array (β×Nat)) (a b:Nat) (hab:a<=b) (hb:b<=d.size) (ht:∀p q,a<=p->p<q->q<b->d[p]!.2<d[q]!.2):
  PermIn a b d (insertionSort (tlt lt) d a b)/\SortedIn (slt lt) a b (insertionSort (tlt lt) d a b):=by
 have h:=insertionSort_holds (fZ hS) d a b hab hb
 have e:insertionSort (tlt lt) d a b=insertionSort (slt lt) d a b:=by
  unfold insertionSort;by_cases h1:a=b
  ·subst h1;rw [insOuter,if_neg zj,insOuter,if_neg zj]
  exact iH hS a b _ (a+1) d rfl zj zj hb (fun i j h1 h2 h3=>zj) (fun p q h1 h2 _ h3=>ht p q h1 h2 h3)
 rw [e];exact h
end
def cD (s m e k:Nat):Nat:=if s<=k/\k<s+(e - m) then k+(m - s) else if s+(e - m)<=k/\k<e then k - (e - m) else k
section
variable {α:Type} [Inhabited α]
structure Rot (d d':Array α) (s m e:Nat):Prop where
 perm:PermIn s e d d'
 at_:∀k,d'[k]! =d[cD s m e k]!
structure Exch (d d':Array α) (a b n:Nat):Prop where
 size:d'.size=d.size
 at_:∀k,d'[k]! =d[if a<=k/\k<a+n then k+b - a else if b<=k/\k<b+n then k+a - b else k]!
 perm:∀lo hi,lo<=a->a+n<=hi->lo<=b->b+n<=hi->hi<=d.size->PermIn lo hi d d'
theorem Exch.zero (d:Array α) (a b:Nat):Exch d d a b 0:=
 ⟨rfl,fun k=>by rw [if_neg zj,if_neg zj],fun lo hi _ _ _ _ _=>permIn_refl d lo hi⟩
theorem Exch.next {d d':Array α} (h:Exch d d' a b n) (hab:a+n<b) (hb:b+n<d.size):Exch d (swp d' (a+n) (b+n)) a b (n+1):=by
 refine ⟨by rw [swp_size,h.size],fun k=> ?_,fun lo hi h1 h2 h3 h4 h5=> ?_⟩
 ·rw [swp_get d' jP jP];rw [h.at_,h.at_,h.at_];by_cases k1:k=b+n
  ·subst k1;rw [if_pos rfl];congr 1
   repeat' split
   all_goals omega
  rw [if_neg k1];by_cases k2:k=a+n
  ·subst k2;rw [if_pos rfl];congr 1
   repeat' split
   all_goals omega
  rw [if_neg k2];congr 1
  repeat' split
  all_goals omega
 have p1:=h.perm lo hi h1 zj h3 zj h5;exact permIn_trans _ _ _ lo hi p1 (swp_permIn d' lo hi (a+n) (b+n) zj zj zj zj jP)
theorem Rot.left {d d1 d2:Array α} (him:i<=m) (hij:j<i) (hsz:m+j<=d.size) (h1:Exch d d1 (m - i) m j) (h2:Rot d1 d2 (m - (i - j)) m (m+j)):Rot d d2 (m - i) m (m+j):=by
 refine ⟨?_,fun k=> ?_⟩
 ·have p1:=h1.perm (m - i) (m+j) zj zj zj zj hsz;exact permIn_trans _ _ _ _ _ p1 (permIn_mono d1 d2 _ _ _ _ zj zg (by rw [h1.size];exact hsz) h2.perm)
 rw [h2.at_,h1.at_];congr 1;unfold cD
 repeat' split
 all_goals omega
theorem Rot.right {d d1 d2:Array α} (him:i<=m) (hij:i<j) (hsz:m+j<=d.size) (h1:Exch d d1 (m - i) (m+j - i) i) (h2:Rot d1 d2 (m - i) m (m+(j - i))):Rot d d2 (m - i) m (m+j):=by
 refine ⟨?_,fun k=> ?_⟩
 ·have p1:=h1.perm (m - i) (m+j) zj zj zj zj hsz;exact permIn_trans _ _ _ _ _ p1 (permIn_mono d1 d2 _ _ _ _ zg zj (by rw [h1.size];exact hsz) h2.perm)
 rw [h2.at_,h1.at_];congr 1;unfold cD
 repeat' split
 all_goals omega
theorem Rot.both {d d1:Array α} (him:i<=m) (hsz:m+i<=d.size) (h1:Exch d d1 (m - i) m i):Rot d d1 (m - i) m (m+i):=by
 refine ⟨h1.perm (m - i) (m+i) zj zj zj zj hsz,fun k=> ?_⟩;rw [h1.at_];congr 1;unfold cD
 repeat' split
 all_goals omega
theorem Rot.none (d:Array α) (s m e:Nat) (hs:s<=m) (he:m<=e) (h:s=m\/m=e):Rot d d s m e:=by
 refine ⟨permIn_refl d s e,fun k=> ?_⟩;congr 1;unfold cD
 repeat' split
 all_goals omega
theorem Rot.up {d d':Array α} (h:Rot d d' a (a+1) (k+1)) (hak:a<=k) (hk:k+1<d.size):Rot d (swp d' k (k+1)) a (a+1) (k+2):=by
 have hs:d'.size=d.size:=h.perm.1;refine ⟨permIn_trans _ _ _ _ _ (permIn_mono d d' _ _ _ _ zg zj zj h.perm) (swp_permIn d' a (k+2) k (k+1) hak zj zj zj zj),fun x=> ?_⟩;rw [swp_get d' zj zj,h.at_,h.at_,h.at_];by_cases x1:x=k+1
 ·subst x1;rw [if_pos rfl];congr 1;unfold cD
  repeat' split
  all_goals omega
 rw [if_neg x1];by_cases x2:x=k
 ·subst x2;rw [if_pos rfl];congr 1;unfold cD
  repeat' split
  all_goals omega
 rw [if_neg x2];congr 1;unfold cD
 repeat' split
 all_goals omega
theorem Rot.down {d d':Array α} (h:Rot d d' (k+1) m (m+1)) (hkm:k+1<=m) (hm:m<d.size):Rot d (swp d' (k+1) k) k m (m+1):=by
 have hs:d'.size=d.size:=h.perm.1;refine ⟨permIn_trans _ _ _ _ _ (permIn_mono d d' _ _ _ _ zj zg zj h.perm) (swp_permIn d' k (m+1) (k+1) k zj zj zj zj zj),fun x=> ?_⟩;rw [swp_get d' zj zj,h.at_,h.at_,h.at_];by_cases x1:x=k
 ·subst x1;rw [if_pos rfl];congr 1;unfold cD
  repeat' split
  all_goals omega
 rw [if_neg x1];by_cases x2:x=k+1
 ·subst x2;rw [if_pos rfl];congr 1;unfold cD
  repeat' split
  all_goals omega
 rw [if_neg x2];congr 1;unfold cD
 repeat' split
 all_goals omega
end
section
variable {β:Type} [Inhabited β] {lt:β→β→Bool}
structure Runs (lt:β->β->Bool) (a m b:Nat) (d:Array (β×Nat)):Prop where
 one:SortedIn (slt lt) a m d
 two:SortedIn (slt lt) m b d
 tag:∀p q,a<=p->p<m->m<=q->q<b->d[p]!.2<d[q]!.2
theorem Runs.le_one {d:Array (β×Nat)} (hS:SWO lt) (h:Runs lt a m b d) (hi:a<=i) (hij:i<=j) (hj:j<m):slt lt d[j]! d[i]! =false:=by
 by_cases e:i=j
 ·subst e;exact (fZ hS).irrefl _
 exact h.one i j hi zj hj
theorem Runs.le_two {d:Array (β×Nat)} (hS:SWO lt) (h:Runs lt a m b d) (hi:m<=i) (hij:i<=j) (hj:j<b):slt lt d[j]! d[i]! =false:=by
 by_cases e:i=j
 ·subst e;exact (fZ hS).irrefl _
 exact h.two i j hi zj hj
theorem Runs.cut (hS:SWO lt) {s e:Nat} {d d':Array (β×Nat)} (h:Runs lt a m b d) (h1:a<=s) (h2:s<=m) (h3:m<=e) (h4:e<=b)
  (hlo:a<s->e<b->tlt lt d[e]! d[s - 1]! =false) (hhi:s<m->m<e->tlt lt d[e - 1]! d[s]! =true) (hR:Rot d d' s m e):
  Runs lt a s (s+(e - m)) d'/\Runs lt (s+(e - m)) e b d'/\∀p q,a<=p->p<s+(e - m)->s+(e - m)<=q->q<b->slt lt d'[q]! d'[p]! =false:=by
 have W:=fZ hS
 have lo:a<s->e<b->slt lt d[e]! d[s - 1]! =false:=fun x y=>by rw [eU (h.tag (s - 1) e zj zj h3 y)];exact hlo x y
 have hi:s<m->m<e->slt lt d[s]! d[e - 1]! =false:=fun x y=>iD hS (by rw [eU (h.tag s (e - 1) h1 x zj zj)];exact hhi x y)
 have g:=hR.at_;refine ⟨⟨?_,?_,?_⟩,⟨?_,?_,?_⟩,?_⟩
 ·intro i j hi hij hj;rw [g,g,cD,if_neg zj,if_neg zj,cD,if_neg zj,if_neg zj];exact h.one i j hi hij zj
 ·intro i j hi hij hj;rw [g,g,cD,if_pos zj,cD,if_pos zj];exact ki5
 ·intro p q hp hps hq hqb;rw [g,g,cD,if_neg zj,if_neg zj,cD,if_pos zj];exact h.tag _ _ hp zj zj zj
 ·intro i j hi hij hj;rw [g,g,cD,if_neg zj,if_pos zj,cD,if_neg zj,if_pos zj];exact kk2
 ·intro i j hi hij hj;rw [g,g,cD,if_neg zj,if_neg zj,cD,if_neg zj,if_neg zj];exact ki5
 ·intro p q hp hps hq hqb;rw [g,g,cD,if_neg zj,if_pos zj,cD,if_neg zj,if_neg zj];exact h.tag _ _ zj zj zj zj
 intro p q hp hpm hq hqb;rw [g,g];by_cases c1:p<s
 ·rw [show cD s m e p=p by rw [cD,if_neg zj,if_neg zj]];by_cases c2:q<e
  ·rw [show cD s m e q=q - (e - m) by rw [cD,if_neg zj,if_pos zj]];exact h.one _ _ hp zj zj
  rw [show cD s m e q=q by rw [cD,if_neg zj,if_neg zj]];have x1:=h.le_two hS (i:=e) (j:=q) zj zj hqb;have x2:=lo zj zj;have x3:=h.le_one hS (i:=p) (j:=s - 1) hp zj zj;exact W.ntrans _ _ _ x1 (W.ntrans _ _ _ x2 x3)
 rw [show cD s m e p=p+(m - s) by rw [cD,if_pos zj]];by_cases c2:q<e
 ·rw [show cD s m e q=q - (e - m) by rw [cD,if_neg zj,if_pos zj]];have x1:=h.le_one hS (i:=s) (j:=q - (e - m)) zj zj zj;have x2:=hi zj zj;have x3:=h.le_two hS (i:=p+(m - s)) (j:=e - 1) zj zj zj;exact W.ntrans _ _ _ x1 (W.ntrans _ _ _ x2 x3)
 rw [show cD s m e q=q by rw [cD,if_neg zj,if_neg zj]];exact h.two _ _ zj zj hqb
theorem Runs.sorted {d:Array (β×Nat)} (h:Runs lt a m b d) (he:a=m\/m=b):SortedIn (slt lt) a b d:=by
 rcases he with rfl | rfl
 ·exact h.two
 exact h.one
theorem eX {c:Nat} {d d1 d2:Array (β×Nat)} (hac:a<=c) (hcb:c<=b) (hb:b<=d.size) (hx:∀p q,a<=p->p<c->c<=q->q<b->slt lt d[q]! d[p]! =false)
  (p1:PermIn a c d d1) (s1:SortedIn (slt lt) a c d1) (p2:PermIn c b d1 d2) (s2:SortedIn (slt lt) c b d2):PermIn a b d d2/\SortedIn (slt lt) a b d2:=by
 refine ⟨permIn_trans _ _ _ _ _ (permIn_mono d d1 _ _ _ _ zg hcb hb p1) (permIn_mono d1 d2 _ _ _ _ hac zg (by rw [p1.1];exact hb) p2),fun i j hi hij hj=> ?_⟩;by_cases h1:j<c
 ·rw [p2.2.1 i (.inl zj),p2.2.1 j (.inl h1)];exact s1 i j hi hij h1
 by_cases h2:c<=i
 ·exact s2 i j h2 hij hj
 rw [p2.2.1 i (.inl zj)]
 have q1:∀q,c<=q->q<b->slt lt d2[q]! d1[i]! =false:=by
  refine permIn_all d1 d2 c b (fun x=>slt lt x d1[i]! =false) (by rw [p1.1];exact hb) p2 ?_;intro q hq hqb;rw [p1.2.1 q (.inr hq)];exact permIn_all d d1 a c (fun x=>slt lt d[q]! x=false) zj p1 (fun r hr hrc=>hx r q hr hrc hq hqb) i hi zj
 exact q1 j zj hj
theorem Runs.first (hS:SWO lt) {d d':Array (β×Nat)} (h:Runs lt a (a+1) b d) (h1:a+1<=i) (h2:i<=b)
  (hlo:a+1<i->tlt lt d[i - 1]! d[a]! =true) (hhi:i<b->tlt lt d[i]! d[a]! =false) (hR:Rot d d' a (a+1) i):SortedIn (slt lt) a b d':=by
 have W:=fZ hS
 have lo:a+1<i->slt lt d[a]! d[i - 1]! =false:=fun x=>iD hS (by rw [eU (h.tag a (i - 1) zj zj zj zj)];exact hlo x)
 have hi:i<b->slt lt d[i]! d[a]! =false:=fun x=>by rw [eU (h.tag a i zj zj h1 x)];exact hhi x
 have g:=hR.at_;intro p q hp hpq hq;rw [g,g];by_cases c1:q<i - 1
 ·rw [cD,if_pos zj,cD,if_pos zj];exact ki5
 by_cases c2:q=i - 1
 ·rw [show cD a (a+1) i q=a by rw [cD,if_neg zj,if_pos zj];omega,cD,if_pos zj];have x1:=lo zj;have x2:=h.le_two hS (i:=p+(a+1 - a)) (j:=i - 1) zj zj zj;exact W.ntrans _ _ _ x1 x2
 rw [show cD a (a+1) i q=q by rw [cD,if_neg zj,if_neg zj]];by_cases c3:p<i - 1
 ·rw [cD,if_pos zj];exact ki5
 by_cases c4:p=i - 1
 ·rw [show cD a (a+1) i p=a by rw [cD,if_neg zj,if_pos zj];omega];have x1:=h.le_two hS (i:=i) (j:=q) zj zj zj;exact W.ntrans _ _ _ x1 (hi zj)
 rw [show cD a (a+1) i p=p by rw [cD,if_neg zj,if_neg zj]];exact ki5
theorem Runs.last (hS:SWO lt) {d d':Array (β×Nat)} (h:Runs lt a m (m+1) d) (h1:a<=i) (h2:i<=m)
  (hlo:a<i->tlt lt d[m]! d[i - 1]! =false) (hhi:i<m->tlt lt d[m]! d[i]! =true) (hR:Rot d d' i m (m+1)):SortedIn (slt lt) a (m+1) d':=by
 have W:=fZ hS
 have lo:a<i->slt lt d[m]! d[i - 1]! =false:=fun x=>by rw [eU (h.tag (i - 1) m zj zj zj zj)];exact hlo x
 have hi:i<m->slt lt d[i]! d[m]! =false:=fun x=>iD hS (by rw [eU (h.tag i m h1 x zj zj)];exact hhi x)
 have g:=hR.at_;intro p q hp hpq hq;rw [g,g];by_cases c1:q<i
 ·rw [cD,if_neg zj,if_neg zj,cD,if_neg zj,if_neg zj];exact kk2
 by_cases c2:q=i
 ·rw [show cD i m (m+1) q=m by rw [cD,if_pos zj];omega,show cD i m (m+1) p=p by rw [cD,if_neg zj,if_neg zj]];have x2:=h.le_one hS (i:=p) (j:=i - 1) zj zj zj;exact W.ntrans _ _ _ (lo zj) x2
 rw [show cD i m (m+1) q=q - 1 by rw [cD,if_neg zj,if_pos zj];omega];by_cases c3:p<i
 ·rw [show cD i m (m+1) p=p by rw [cD,if_neg zj,if_neg zj]];exact kk2
 by_cases c4:p=i
 ·rw [show cD i m (m+1) p=m by rw [cD,if_pos zj];omega];have x1:=h.le_one hS (i:=i) (j:=q - 1) zj zj zj;exact W.ntrans _ _ _ x1 (hi zj)
 rw [show cD i m (m+1) p=p - 1 by rw [cD,if_neg zj,if_pos zj];omega];exact kk2
end
section
variable {β:Type} [Inhabited β] {lt:β→β→Bool}
def OP (B i j:Nat):Prop:=∀c,c*B<=j->c*B<=i
structure Blocks (lt:β->β->Bool) (B a n:Nat) (d:Array (β×Nat)):Prop where
 tag:∀p,p<n->∀c,c*B<=p↔c*B<=d[p]!.2
 done:∀i j,i<j->j<a->OP B i j->slt lt d[j]! d[i]! =false
structure Half (lt:β->β->Bool) (B a n:Nat) (d:Array (β×Nat)):Prop where
 tag:∀p,p<n->∀c,c*(2*B)<=p↔c*(2*B)<=d[p]!.2
 tag1:∀p,a<=p->p<n->∀c,c*B<=p↔c*B<=d[p]!.2
 done:∀i j,i<j->j<a->OP (2*B) i j->slt lt d[j]! d[i]! =false
 rest:∀i j,a<=i->i<j->j<n->OP B i j->slt lt d[j]! d[i]! =false
theorem Blocks.half {d:Array (β×Nat)} (h:Blocks lt B n n d):Half lt B 0 n d:=by
 refine ⟨fun p hp c=> ?_,fun p _ hp c=>h.tag p hp c,fun i j _ hj=>zj,fun i j _ hij hj hs=>h.done i j hij hj hs⟩
 have e:c*(2*B)=(c*2)*B:=by rw [Nat.mul_assoc]
 rw [e];exact h.tag p hp _
theorem Half.runs {c:Nat} {d:Array (β×Nat)} (h:Half lt B a n d) (ha:a=c*(2*B)) (hm:m=a+B) (hmb:m<=b) (hb:b<=a+2*B) (hbn:b<=n):Runs lt a m b d:=by
 have e1:(2*c)*B=a:=by rw [ha,Nat.mul_comm 2 c,Nat.mul_assoc]
 have e2:(2*c+1)*B=m:=by rw [Zz,e1,hm];omega
 have e3:(2*c+2)*B=a+2*B:=by rw [Zz,e1]
 have up:∀x y,x<=y->x*B<=y*B:=fun x y hxy=>uC B hxy
 refine ⟨fun i j hi hij hj=>h.rest i j hi hij zj (fun x hx=> ?_),fun i j hi hij hj=>h.rest i j zj hij zj (fun x hx=> ?_),fun p q hp hpm hq hqb=> ?_⟩
 ·by_cases hx1:x<=2*c
  ·have:=up _ _ hx1;omega
  have:=up (2*c+1) x zj;omega
 ·by_cases hx1:x<=2*c+1
  ·have:=up _ _ hx1;omega
  have:=up (2*c+2) x zj;omega
 have h1:¬(2*c+1)*B<=d[p]!.2:=fun hx=>by have:=(h.tag1 p hp zj (2*c+1)).2 hx;omega
 have h2:=(h.tag1 q zj zj (2*c+1)).1 zj;omega
theorem Half.step {c:Nat} {d d':Array (β×Nat)} (h:Half lt B a n d) (hn:n=d.size) (ha:a=c*(2*B)) (hab:a<=b) (hbn:b<=n) (hb:b=a+2*B\/b=n/\n<=a+2*B) (hp:PermIn a b d d') (hs:SortedIn (slt lt) a b d'):Half lt B b n d':=by
 have e3:(c+1)*(2*B)=a+2*B:=by rw [Zz,ha];omega
 have up:∀x y,x<=y->x*(2*B)<=y*(2*B):=fun x y hxy=>uC _ hxy
 refine ⟨fun p hpn x=> ?_,fun p hbp hpn x=> ?_,fun i j hij hj hsm=> ?_,fun i j hi hij hj hsm=> ?_⟩
 ·by_cases h1:a<=p/\p<b
  ·have key:∀q,a<=q->q<b->(x*(2*B)<=d'[q]!.2↔x<=c):=by
    refine permIn_all d d' a b (fun y=>x*(2*B)<=y.2↔x<=c) zj hp ?_;intro q hq hqb;rw [<-h.tag q zj x];constructor
    ·intro hx
     rcases uB c x with hc | hc
     ·have:=up (c+1) x hc;omega
     exact hc
    exact kq7
   rw [key p h1.1 h1.2];constructor
   ·intro hx
    rcases uB c x with hc | hc
    ·have:=up (c+1) x hc;omega
    exact hc
   exact kq7
  rw [hp.2.1 p zj];exact h.tag p hpn x
 ·rw [hp.2.1 p (.inr hbp)];exact h.tag1 p zj hpn x
 ·by_cases h1:j<a
  ·exact kp6
  have:=hsm c zj;exact hs i j zj hij hj
 rw [hp.2.1 i (.inr zj),hp.2.1 j (.inr zj)];exact h.rest i j zj hij hj hsm
theorem Half.end_ {c:Nat} {d:Array (β×Nat)} (h:Half lt B a n d) (ha:a=c*(2*B)) (hB:n<=a+B):Blocks lt (2*B) n n d:=by
 refine ⟨h.tag,fun i j hij hj hsm=> ?_⟩;by_cases h1:j<a
 ·exact h.done i j hij h1 hsm
 have:=hsm c zj;refine h.rest i j zj hij hj (fun x hx=> ?_)
 have e1:(2*c)*B=a:=by rw [ha,Nat.mul_comm 2 c,Nat.mul_assoc]
 have e2:(2*c+1)*B=a+B:=by rw [Zz,e1];omega
 by_cases hx1:x<=2*c
 ·have:x*B<=(2*c)*B:=uC B hx1;omega
 have:(2*c+1)*B<=x*B:=uC B zj;omega
theorem Half.end_all {d:Array (β×Nat)} (h:Half lt B n n d):Blocks lt (2*B) n n d:=⟨h.tag,h.done⟩
theorem Blocks.step {c:Nat} {d d':Array (β×Nat)} (h:Blocks lt B a n d) (hn:n=d.size) (ha:a=c*B) (hbn:b<=n) (hb:b=a+B\/b=n/\n<=a+B) (hp:PermIn a b d d') (hs:SortedIn (slt lt) a b d'):Blocks lt B b n d':=by
 have e3:(c+1)*B=a+B:=by rw [Zz,ha];omega
 have up:∀x y,x<=y->x*B<=y*B:=fun x y hxy=>uC _ hxy
 refine ⟨fun p hpn x=> ?_,fun i j hij hj hsm=> ?_⟩
 ·by_cases h1:a<=p/\p<b
  ·have key:∀q,a<=q->q<b->(x*B<=d'[q]!.2↔x<=c):=by
    refine permIn_all d d' a b (fun y=>x*B<=y.2↔x<=c) zj hp ?_;intro q hq hqb;rw [<-h.tag q zj x];constructor
    ·intro hx
     rcases uB c x with hc | hc
     ·have:=up (c+1) x hc;omega
     exact hc
    exact kq7
   rw [key p h1.1 h1.2];constructor
   ·intro hx
    rcases uB c x with hc | hc
    ·have:=up (c+1) x hc;omega
    exact hc
   exact kq7
  rw [hp.2.1 p zj];exact h.tag p hpn x
 by_cases h1:j<a
 ·exact kp6
 have:=hsm c zj;exact hs i j zj hij hj
theorem Blocks.all {d:Array (β×Nat)} (h:Blocks lt B n n d) (hn:n<=B):SortedIn (slt lt) 0 n d:=fun i j _ hij hj=>h.done i j hij hj fun c hc=>by
 cases c with
 | zero=>simp
 | succ c=>
  have:1*B<=(c+1)*B:=uC B zj;omega
end
section
variable {β:Type} {lt:β→β→Bool}
theorem GG (hS:SWO lt) (l:List (β×Nat)) (x:β×Nat) (k:Nat) (hk:k<=l.length) (hl:l.Pairwise (fun u v=>slt lt v u=false)) (ht:∀u∈l,u.2<x.2)
  (h1:∀u,l[k - 1]? =some u->0<k->lt x.1 u.1=false) (h2:∀u∈l.drop k,lt x.1 u.1=true):(l.take k++x::l.drop k).Pairwise (fun u v=>slt lt v u=false):=by
 have W:=fZ hS;have hl':=hl;rw [<-ui k l,uX] at hl';obtain ⟨p1,p2,p3⟩:=hl';refine uX.2 ⟨p1,um.2 ⟨fun v hv=> ?_,p2⟩,fun u hu v hv=> ?_⟩
 ·refine iD hS ?_;unfold slt;rw [h2 v hv];rfl
 rcases vJ.1 hv with rfl | hv
 ·have hk0:0<k:=by
   rcases Zs k with e | e
   ·subst e;simp at hu
   exact e
  have hlt:k - 1<l.length:=zj;have e1:=h1 l[k - 1] (vF hlt) hk0
  have e2:slt lt v l[k - 1]=false:=by
   rw [eU (ht _ (uS hlt))];exact e1
  obtain ⟨i,hi,rfl⟩:=uJ hu;rw [vW] at hi;rw [ZB];by_cases e:i=k - 1
  ·subst e;exact e2
  exact W.ntrans _ _ _ e2 (ub.1 hl i (k - 1) zj hlt zj)
 exact p3 u hu v hv
theorem se {β:Type} [Inhabited β] {lt:β->β->Bool} (d:Array (β×Nat)) (h:SortedIn (slt lt) 0 d.size d):d.toList.Pairwise (fun u v=>slt lt v u=false):=by
 rw [ub];intro i j hi hj hij;have:=h i j (vM _) hij yC;rw [getElem!_pos d i qF,getElem!_pos d j yC] at this;exact kp3
end
end Go.Proofs.YtebpcnkdhgnghaaGreatDoor
end
section
namespace Go.Proofs.YtebpcnkdhgnghaaGreatDoor
open Go.RowKit
def eqB (t b n:Int) (k:Nat) (node other:Int) (name value:ByteArray) (t' b' n':Int) (k':Nat) (node' other':Int) (name' value':ByteArray):Bool:=decide (t=t'/\b=b'/\n=n'/\k=k'/\node=node'/\other=other'/\name=name'/\value=value')
theorem Nv (t b n:Int) (k:Nat) (node other:Int) (name value:ByteArray) (t' b' n':Int) (k':Nat) (node' other':Int) (name' value':ByteArray) (w:World):(Op.equalIn 10000 61 (.agg #[.int .i64 t,.int .i64 b,.int .i64 n,.int .u8 (k:Int),.int .i64 node,.int .i64 other,.string name,.string value]) (.agg #[.int .i64 t',.int .i64 b',.int .i64 n',.int .u8 (k':Int),.int .i64 node',.int .i64 other',.string name',.string value'])).run Tryz.prog w= .ok (eqB t b n k node other name value t' b' n' k' node' other' name' value') w:=by
 have hs:∀x y:ByteArray,x.toList=y.toList↔x=y:=fun x y=>⟨fun h=>by rw [uy,uy] at h;exact WideShapes.bytes_inj h,fun h=>by rw [h]⟩
 unfold eqB;go_simp;simp only [Int.natCast_inj];by_cases h1:t=t'<;>by_cases h2:b=b'<;>by_cases h3:n=n'<;>by_cases h4:k=k'<;>by_cases h5:node=node'<;>by_cases h6:other=other'<;>by_cases h7:name=name'<;>by_cases h8:value=value'<;>simp [h1,h2,h3,h4,h5,h6,h7,h8]
theorem Il (t b n:Int) (k:Nat) (node other:Int) (name value:ByteArray):eqB t b n k node other name value t b n k node other name value=true:=by simp [eqB]
end Go.Proofs.YtebpcnkdhgnghaaGreatDoor
end
section
namespace Go.Proofs.YtebpcnkdhgnghaaGreatDoor
open Go.Proofs.Tryz
open Go.Shelf
set_option maxRecDepth 100000
def pC:Ren:=⟨fun | 6=>169 | 14=>225 | 15=>174 | 20=>277 | 21=>278 | 22=>279 | 23=>280 | 24=>281 | 25=>282 | 26=>283 | 27=>284 | 28=>235 | 29=>236 | 46=>326 | 47=>286 | 48=>287 | 49=>327 | 50=>328 | 57=>348 | n=>n,fun | 0=>0 | 3=>3 | 4=>4 | 5=>5 | 9=>9 | 22=>105 | 24=>119 | 25=>198 | 39=>277 | 45=>335 | 46=>336 | 50=>296 | 53=>342 | 55=>325 | 66=>375 | 70=>379 | 76=>403 | 77=>76 | n=>n,fun n=>n⟩
theorem AD:SlLaysF0.n6 prog pC where
 mixed:=zo
 f6:=⟨ "slices.SortFunc[[]concordat/tree.Place,concordat/tree.Place]",zo,func169.trans (congrArg some zo)⟩
 f14:=⟨ "slices.pdqsortCmpFunc[concordat/tree.Place]",zo,func225.trans (congrArg some zo)⟩
 f15:=func174.trans (congrArg some zo)
 f20:=⟨ "slices.insertionSortCmpFunc[concordat/tree.Place]",zo,func277.trans (congrArg some zo)⟩
 f21:=⟨ "slices.heapSortCmpFunc[concordat/tree.Place]",zo,func278.trans (congrArg some zo)⟩
 f22:=⟨ "slices.breakPatternsCmpFunc[concordat/tree.Place]",zo,func279.trans (congrArg some zo)⟩
 f23:=⟨ "slices.choosePivotCmpFunc[concordat/tree.Place]",zo,func280.trans (congrArg some zo)⟩
 f24:=⟨ "slices.reverseRangeCmpFunc[concordat/tree.Place]",zo,func281.trans (congrArg some zo)⟩
 f25:=⟨ "slices.partialInsertionSortCmpFunc[concordat/tree.Place]",zo,func282.trans (congrArg some zo)⟩
 f26:=⟨ "slices.partitionEqualCmpFunc[concordat/tree.Place]",zo,func283.trans (congrArg some zo)⟩
 f27:=⟨ "slices.partitionCmpFunc[concordat/tree.Place]",zo,func284.trans (congrArg some zo)⟩
 f28:=func235.trans (congrArg some zo)
 f29:=func236.trans (congrArg some zo)
 f46:=⟨ "slices.siftDownCmpFunc[concordat/tree.Place]",zo,func326.trans (congrArg some zo)⟩
 f47:=func286.trans (congrArg some zo)
 f48:=func287.trans (congrArg some zo)
 f49:=⟨ "slices.medianAdjacentCmpFunc[concordat/tree.Place]",zo,func327.trans (congrArg some zo)⟩
 f50:=⟨ "slices.medianCmpFunc[concordat/tree.Place]",zo,func328.trans (congrArg some zo)⟩
 f57:=⟨ "slices.order2CmpFunc[concordat/tree.Place]",zo,func348.trans (congrArg some zo)⟩
 t0:=underlying0
 a0:=isAgg0
 z0:=sizeOf0
 v0:=zeroValue0
 t3:=underlying3
 a3:=isAgg3
 z3:=sizeOf3
 v3:=zeroValue3
 t4:=underlying4
 a4:=isAgg4
 z4:=sizeOf4
 v4:=zeroValue4
 t5:=underlying5
 a5:=isAgg5
 z5:=sizeOf5
 v5:=zeroValue5
 t9:=underlying9
 a9:=isAgg9
 z9:=sizeOf9
 v9:=zeroValue9
 t22:=underlying105
 a22:=isAgg105
 z22:=sizeOf105
 v22:=zeroValue105
 t25:=underlying198
 a25:=isAgg198
 z25:=sizeOf198
 v25:=zeroValue198
 t39:=underlying277
 a39:=isAgg277
 z39:=sizeOf277
 v39:=zeroValue277
 t45:=underlying335
 a45:=isAgg335
 z45:=sizeOf335
 v45:=zeroValue335
 t46:=underlying336
 a46:=isAgg336
 z46:=sizeOf336
 v46:=zeroValue336
 t50:=underlying296
 a50:=isAgg296
 z50:=sizeOf296
 v50:=zeroValue296
 t53:=underlying342
 a53:=isAgg342
 z53:=sizeOf342
 v53:=zeroValue342
 t55:=underlying325
 a55:=isAgg325
 z55:=sizeOf325
 v55:=zeroValue325
 t66:=underlying375
 a66:=isAgg375
 z66:=sizeOf375
 v66:=zeroValue375
 t70:=underlying379
 a70:=isAgg379
 z70:=sizeOf379
 v70:=zeroValue379
 t76:=underlying403
 a76:=isAgg403
 z76:=sizeOf403
 v76:=zeroValue403
 t77:=underlying76
 a77:=isAgg76
 z77:=sizeOf76
 v77:=zeroValue76
end Go.Proofs.YtebpcnkdhgnghaaGreatDoor
end
section
namespace Go.Proofs.YtebpcnkdhgnghaaGreatDoor
open Go.Proofs.Tryz
open Go.Shelf
set_option maxRecDepth 100000
def oD:Ren:=⟨fun | 6=>105 | 14=>175 | 15=>174 | 20=>237 | 21=>238 | 22=>239 | 23=>240 | 24=>241 | 25=>242 | 26=>243 | 27=>244 | 28=>235 | 29=>236 | 46=>290 | 47=>286 | 48=>287 | 49=>291 | 50=>292 | 57=>330 | n=>n,fun | 0=>0 | 3=>3 | 4=>4 | 5=>5 | 9=>9 | 22=>125 | 24=>128 | 25=>210 | 39=>277 | 45=>335 | 46=>336 | 50=>296 | 53=>342 | 55=>325 | 66=>375 | 70=>379 | 76=>403 | 77=>76 | n=>n,fun n=>n⟩
theorem ro:SlLaysF0.n6 prog oD where
 mixed:=zo
 f6:=⟨ "slices.SortFunc[[]concordat/cells.Mark,concordat/cells.Mark]",zo,func105.trans (congrArg some zo)⟩
 f14:=⟨ "slices.pdqsortCmpFunc[concordat/cells.Mark]",zo,func175.trans (congrArg some zo)⟩
 f15:=func174.trans (congrArg some zo)
 f20:=⟨ "slices.insertionSortCmpFunc[concordat/cells.Mark]",zo,func237.trans (congrArg some zo)⟩
 f21:=⟨ "slices.heapSortCmpFunc[concordat/cells.Mark]",zo,func238.trans (congrArg some zo)⟩
 f22:=⟨ "slices.breakPatternsCmpFunc[concordat/cells.Mark]",zo,func239.trans (congrArg some zo)⟩
 f23:=⟨ "slices.choosePivotCmpFunc[concordat/cells.Mark]",zo,func240.trans (congrArg some zo)⟩
 f24:=⟨ "slices.reverseRangeCmpFunc[concordat/cells.Mark]",zo,func241.trans (congrArg some zo)⟩
 f25:=⟨ "slices.partialInsertionSortCmpFunc[concordat/cells.Mark]",zo,func242.trans (congrArg some zo)⟩
 f26:=⟨ "slices.partitionEqualCmpFunc[concordat/cells.Mark]",zo,func243.trans (congrArg some zo)⟩
 f27:=⟨ "slices.partitionCmpFunc[concordat/cells.Mark]",zo,func244.trans (congrArg some zo)⟩
 f28:=func235.trans (congrArg some zo)
 f29:=func236.trans (congrArg some zo)
 f46:=⟨ "slices.siftDownCmpFunc[concordat/cells.Mark]",zo,func290.trans (congrArg some zo)⟩
 f47:=func286.trans (congrArg some zo)
 f48:=func287.trans (congrArg some zo)
 f49:=⟨ "slices.medianAdjacentCmpFunc[concordat/cells.Mark]",zo,func291.trans (congrArg some zo)⟩
 f50:=⟨ "slices.medianCmpFunc[concordat/cells.Mark]",zo,func292.trans (congrArg some zo)⟩
 f57:=⟨ "slices.order2CmpFunc[concordat/cells.Mark]",zo,func330.trans (congrArg some zo)⟩
 t0:=underlying0
 a0:=isAgg0
 z0:=sizeOf0
 v0:=zeroValue0
 t3:=underlying3
 a3:=isAgg3
 z3:=sizeOf3
 v3:=zeroValue3
 t4:=underlying4
 a4:=isAgg4
 z4:=sizeOf4
 v4:=zeroValue4
 t5:=underlying5
 a5:=isAgg5
 z5:=sizeOf5
 v5:=zeroValue5
 t9:=underlying9
 a9:=isAgg9
 z9:=sizeOf9
 v9:=zeroValue9
 t22:=underlying125
 a22:=isAgg125
 z22:=sizeOf125
 v22:=zeroValue125
 t25:=underlying210
 a25:=isAgg210
 z25:=sizeOf210
 v25:=zeroValue210
 t39:=underlying277
 a39:=isAgg277
 z39:=sizeOf277
 v39:=zeroValue277
 t45:=underlying335
 a45:=isAgg335
 z45:=sizeOf335
 v45:=zeroValue335
 t46:=underlying336
 a46:=isAgg336
 z46:=sizeOf336
 v46:=zeroValue336
 t50:=underlying296
 a50:=isAgg296
 z50:=sizeOf296
 v50:=zeroValue296
 t53:=underlying342
 a53:=isAgg342
 z53:=sizeOf342
 v53:=zeroValue342
 t55:=underlying325
 a55:=isAgg325
 z55:=sizeOf325
 v55:=zeroValue325
 t66:=underlying375
 a66:=isAgg375
 z66:=sizeOf375
 v66:=zeroValue375
 t70:=underlying379
 a70:=isAgg379
 z70:=sizeOf379
 v70:=zeroValue379
 t76:=underlying403
 a76:=isAgg403
 z76:=sizeOf403
 v76:=zeroValue403
 t77:=underlying76
 a77:=isAgg76
 z77:=sizeOf76
 v77:=zeroValue76
end Go.Proofs.YtebpcnkdhgnghaaGreatDoor
end
section
namespace Go.Proofs.YtebpcnkdhgnghaaGreatDoor
open Go.Proofs.Tryz
open Go.Shelf
set_option maxRecDepth 100000
def pr:Ren:=⟨fun | 6=>191 | 14=>254 | 15=>174 | 20=>256 | 21=>298 | 22=>299 | 23=>300 | 24=>301 | 25=>302 | 26=>303 | 27=>304 | 28=>235 | 29=>236 | 46=>334 | 47=>286 | 48=>287 | 49=>335 | 50=>336 | 57=>349 | n=>n,fun | 0=>0 | 3=>3 | 4=>4 | 5=>5 | 9=>9 | 22=>25 | 24=>61 | 25=>228 | 39=>277 | 45=>335 | 46=>336 | 50=>296 | 53=>342 | 55=>325 | 66=>375 | 70=>379 | 76=>403 | 77=>76 | n=>n,fun n=>n⟩
theorem Ao:SlLaysF0.n6 prog pr where
 mixed:=zo
 f6:=⟨ "slices.SortFunc[[]concordat/api.Op,concordat/api.Op]",zo,func191.trans (congrArg some zo)⟩
 f14:=⟨ "slices.pdqsortCmpFunc[concordat/api.Op]",zo,func254.trans (congrArg some zo)⟩
 f15:=func174.trans (congrArg some zo)
 f20:=⟨ "slices.insertionSortCmpFunc[concordat/api.Op]",zo,func256.trans (congrArg some zo)⟩
 f21:=⟨ "slices.heapSortCmpFunc[concordat/api.Op]",zo,func298.trans (congrArg some zo)⟩
 f22:=⟨ "slices.breakPatternsCmpFunc[concordat/api.Op]",zo,func299.trans (congrArg some zo)⟩
 f23:=⟨ "slices.choosePivotCmpFunc[concordat/api.Op]",zo,func300.trans (congrArg some zo)⟩
 f24:=⟨ "slices.reverseRangeCmpFunc[concordat/api.Op]",zo,func301.trans (congrArg some zo)⟩
 f25:=⟨ "slices.partialInsertionSortCmpFunc[concordat/api.Op]",zo,func302.trans (congrArg some zo)⟩
 f26:=⟨ "slices.partitionEqualCmpFunc[concordat/api.Op]",zo,func303.trans (congrArg some zo)⟩
 f27:=⟨ "slices.partitionCmpFunc[concordat/api.Op]",zo,func304.trans (congrArg some zo)⟩
 f28:=func235.trans (congrArg some zo)
 f29:=func236.trans (congrArg some zo)
 f46:=⟨ "slices.siftDownCmpFunc[concordat/api.Op]",zo,func334.trans (congrArg some zo)⟩
 f47:=func286.trans (congrArg some zo)
 f48:=func287.trans (congrArg some zo)
 f49:=⟨ "slices.medianAdjacentCmpFunc[concordat/api.Op]",zo,func335.trans (congrArg some zo)⟩
 f50:=⟨ "slices.medianCmpFunc[concordat/api.Op]",zo,func336.trans (congrArg some zo)⟩
 f57:=⟨ "slices.order2CmpFunc[concordat/api.Op]",zo,func349.trans (congrArg some zo)⟩
 t0:=underlying0
 a0:=isAgg0
 z0:=sizeOf0
 v0:=zeroValue0
 t3:=underlying3
 a3:=isAgg3
 z3:=sizeOf3
 v3:=zeroValue3
 t4:=underlying4
 a4:=isAgg4
 z4:=sizeOf4
 v4:=zeroValue4
 t5:=underlying5
 a5:=isAgg5
 z5:=sizeOf5
 v5:=zeroValue5
 t9:=underlying9
 a9:=isAgg9
 z9:=sizeOf9
 v9:=zeroValue9
 t22:=underlying25
 a22:=isAgg25
 z22:=sizeOf25
 v22:=zeroValue25
 t25:=underlying228
 a25:=isAgg228
 z25:=sizeOf228
 v25:=zeroValue228
 t39:=underlying277
 a39:=isAgg277
 z39:=sizeOf277
 v39:=zeroValue277
 t45:=underlying335
 a45:=isAgg335
 z45:=sizeOf335
 v45:=zeroValue335
 t46:=underlying336
 a46:=isAgg336
 z46:=sizeOf336
 v46:=zeroValue336
 t50:=underlying296
 a50:=isAgg296
 z50:=sizeOf296
 v50:=zeroValue296
 t53:=underlying342
 a53:=isAgg342
 z53:=sizeOf342
 v53:=zeroValue342
 t55:=underlying325
 a55:=isAgg325
 z55:=sizeOf325
 v55:=zeroValue325
 t66:=underlying375
 a66:=isAgg375
 z66:=sizeOf375
 v66:=zeroValue375
 t70:=underlying379
 a70:=isAgg379
 z70:=sizeOf379
 v70:=zeroValue379
 t76:=underlying403
 a76:=isAgg403
 z76:=sizeOf403
 v76:=zeroValue403
 t77:=underlying76
 a77:=isAgg76
 z77:=sizeOf76
 v77:=zeroValue76
end Go.Proofs.YtebpcnkdhgnghaaGreatDoor
end
section
namespace Go.Proofs
open Go.Proofs.Tryz
open Go.Shelf
def Tryz.lays156_ren:Go.Shelf.Ren:=⟨fun | 156=>50 | 165=>93 | 166=>94 | 169=>95 | 240=>166 | 241=>167 | 276=>222 | 277=>223 | n=>n,fun | 31=>102 | 9=>9 | 3=>3 | 4=>4 | 0=>0 | 20=>20 | 72=>186 | 76=>70 | 70=>183 | 37=>184 | 75=>36 | 127=>270 | 164=>237 | 5=>5 | 80=>40 | n=>n,fun | n=>n⟩
theorem Tryz.lays156:Go.Proofs.Lays.n156 prog Tryz.lays156_ren:={
 mixed:=zo
 f156:=func50.trans (congrArg some zo)
 f165:=func93.trans (congrArg some zo)
 f166:=func94.trans (congrArg some zo)
 f169:=func95.trans (congrArg some zo)
 f240:=func166.trans (congrArg some zo)
 f241:=func167.trans (congrArg some zo)
 f276:=func222.trans (congrArg some zo)
 f277:=func223.trans (congrArg some zo)
 t0:=underlying0
 a0:=isAgg0
 z0:=sizeOf0
 v0:=zeroValue0
 t3:=underlying3
 a3:=isAgg3
 z3:=sizeOf3
 v3:=zeroValue3
 t4:=underlying4
 a4:=isAgg4
 z4:=sizeOf4
 v4:=zeroValue4
 t9:=underlying9
 a9:=isAgg9
 z9:=sizeOf9
 v9:=zeroValue9
 t20:=underlying20
 a20:=isAgg20
 z20:=sizeOf20
 v20:=zeroValue20
 t31:=underlying102
 a31:=isAgg102
 z31:=sizeOf102
 v31:=zeroValue102
 t37:=underlying184
 a37:=isAgg184
 z37:=sizeOf184
 v37:=zeroValue184
 t70:=underlying183
 a70:=isAgg183
 z70:=sizeOf183
 v70:=zeroValue183
 t72:=underlying186
 a72:=isAgg186
 z72:=sizeOf186
 v72:=zeroValue186
 t75:=underlying36
 a75:=isAgg36
 z75:=sizeOf36
 v75:=zeroValue36
 t76:=underlying70
 a76:=isAgg70
 z76:=sizeOf70
 v76:=zeroValue70
 t127:=underlying270
 a127:=isAgg270
 z127:=sizeOf270
 v127:=zeroValue270
 t164:=underlying237
 a164:=isAgg237
 z164:=sizeOf237
 v164:=zeroValue237}
theorem Tryz.Builder_Extra_156:Builder.Extra prog Tryz.lays156_ren:={
 sizeBuilder:=zo
 liesBuilder:=zo
 t5:=underlying5
 a5:=isAgg5
 z5:=sizeOf5
 v5:=zeroValue5
 infoByte:=zo
 cellsByte:=zo
 sizeByte:=zo
 neB5:=zr}
open Go.RowKit in
theorem Tryz.strings_Join_none (a:Option Addr) (c:Nat) (sep:ByteArray) (w:World):
  Calls prog 50 #[.slice a 0 c,.string sep] w fun e w'=>e= .returned (.string ⟨#[]⟩)/\w'=w:=Any.strings_Join_none Tryz.lays156 Tryz.Builder_Extra_156 a c sep w
open Go.RowKit in
theorem Tryz.strings_Join (bk o c:Nat) (xs:List ByteArray) (sep:ByteArray) (w:World) (hcells:∀(j:Nat) x,xs[j]? =some x->w.cell? ⟨bk,o+j,none⟩=some (.string x)) (hbk:bk<w.heap.size) (hN:xs.length<=140737488355328) (hcap:xs.length<=c) (hlen:(Lib.join (xs.map (·.data.toList)) sep.data.toList).length<=140737488355328):
  Calls prog 50 #[.slice (some ⟨bk,o,none⟩) xs.length c,.string sep] w fun e w'=>e= .returned (.string ⟨(Lib.join (xs.map (·.data.toList)) sep.data.toList).toArray⟩)/\Below w.heap.size w w':=Any.strings_Join Tryz.lays156 Tryz.Builder_Extra_156 bk o c xs sep w hcells hbk hN hcap hlen
def Tryz.laysM171_ren:Go.Shelf.Ren:=⟨fun | 171=>49 | 243=>92 | 246=>165 | 283=>218 | 284=>219 | 285=>220 | 286=>221 | 129=>236 | 317=>273 | 318=>274 | 319=>275 | 320=>276 | 337=>324 | 338=>325 | n=>n,fun | 3=>3 | 9=>9 | 2=>2 | 4=>4 | 171=>324 | 0=>0 | 53=>325 | 37=>184 | 5=>5 | 173=>328 | 212=>368 | 51=>342 | 20=>20 | 213=>369 | 46=>277 | 232=>420 | 233=>421 | n=>n,fun | 17=>13 | 18=>15 | 19=>16 | n=>n⟩
theorem Tryz.laysM171:Go.Proofs.LaysM.n171 prog Tryz.laysM171_ren:={
 mixed:=zo
 f129:=func236.trans (congrArg some zo)
 f171:=func49.trans (congrArg some zo)
 f243:=func92.trans (congrArg some zo)
 f246:=func165.trans (congrArg some zo)
 f283:=func218.trans (congrArg some zo)
 f284:=func219.trans (congrArg some zo)
 f285:=func220.trans (congrArg some zo)
 f286:=func221.trans (congrArg some zo)
 f317:=func273.trans (congrArg some zo)
 f318:=func274.trans (congrArg some zo)
 f319:=func275.trans (congrArg some zo)
 f320:=func276.trans (congrArg some zo)
 f337:=func324.trans (congrArg some zo)
 f338:=func325.trans (congrArg some zo)
 t0:=underlying0
 a0:=isAgg0
 z0:=sizeOf0
 v0:=zeroValue0
 t2:=underlying2
 a2:=isAgg2
 z2:=sizeOf2
 v2:=zeroValue2
 t3:=underlying3
 a3:=isAgg3
 z3:=sizeOf3
 v3:=zeroValue3
 t4:=underlying4
 a4:=isAgg4
 z4:=sizeOf4
 v4:=zeroValue4
 t5:=underlying5
 a5:=isAgg5
 z5:=sizeOf5
 v5:=zeroValue5
 t9:=underlying9
 a9:=isAgg9
 z9:=sizeOf9
 v9:=zeroValue9
 t20:=underlying20
 a20:=isAgg20
 z20:=sizeOf20
 v20:=zeroValue20
 t37:=underlying184
 a37:=isAgg184
 z37:=sizeOf184
 v37:=zeroValue184
 t46:=underlying277
 a46:=isAgg277
 z46:=sizeOf277
 v46:=zeroValue277
 t51:=underlying342
 a51:=isAgg342
 z51:=sizeOf342
 v51:=zeroValue342
 t53:=underlying325
 a53:=isAgg325
 z53:=sizeOf325
 v53:=zeroValue325
 t171:=underlying324
 a171:=isAgg324
 z171:=sizeOf324
 v171:=zeroValue324
 t173:=underlying328
 a173:=isAgg328
 z173:=sizeOf328
 v173:=zeroValue328
 t212:=underlying368
 a212:=isAgg368
 z212:=sizeOf368
 v212:=zeroValue368
 t213:=underlying369
 a213:=isAgg369
 z213:=sizeOf369
 t232:=underlying420
 a232:=isAgg420
 z232:=sizeOf420
 v232:=zeroValue420
 t233:=underlying421
 a233:=isAgg421
 z233:=sizeOf421
 v233:=zeroValue421
 g17:=zo
 g18:=zo
 g19:=zo
 i0:=zo
 i2:=zo
 i3:=zo
 i4:=zo
 i5:=zo
 i9:=zo
 i20:=zo
 i37:=zo
 i46:=zo
 i51:=zo
 i53:=zo
 i171:=zo
 i173:=zo
 i212:=zo
 i232:=zo
 i233:=zo
 m17:=zo
 m18:=zo
 m19:=zo}
open Go.RowKit Go.Sort Go.Lib in
theorem Tryz.strconv_Itoa (n:Int) (h0: -9223372036854775808<=n) (h1:n<=9223372036854775807) (w:World) (htab:Lib.TabIs prog w "internal/strconv.uint64pow10" .u64 Lib.pow10Tab):
  Calls prog 49 #[.int .i64 n] w fun e w'=>e= .returned (.string ⟨(Lib.itoa n).toArray⟩)/\∃k os,w'=grow (w.drewN k) os:=Any.strconv_Itoa Tryz.laysM171 n h0 h1 w htab
def Tryz.laysM147_ren:Go.Shelf.Ren:=⟨fun | 147=>361 | 221=>368 | 268=>372 | 138=>373 | 143=>374 | 195=>375 | 197=>376 | 218=>377 | 219=>360 | 260=>378 | 217=>364 | 225=>365 | 224=>366 | 267=>367 | 266=>370 | 314=>371 | n=>n,fun | 9=>9 | 3=>3 | 31=>102 | 4=>4 | 0=>0 | 105=>444 | 21=>21 | 5=>5 | 46=>277 | 119=>446 | 139=>449 | 138=>448 | 146=>429 | 51=>342 | n=>n,fun | 1=>14 | 3=>17 | 4=>18 | n=>n⟩
theorem Tryz.laysM147:Go.Proofs.LaysM.n147 prog Tryz.laysM147_ren:={
 mixed:=zo
 f138:=func373.trans (congrArg some zo)
 f143:=func374.trans (congrArg some zo)
 f147:=func361.trans (congrArg some zo)
 f195:=func375.trans (congrArg some zo)
 f197:=func376.trans (congrArg some zo)
 f217:=func364.trans (congrArg some zo)
 f218:=func377.trans (congrArg some zo)
 f219:=func360.trans (congrArg some zo)
 f221:=func368.trans (congrArg some zo)
 f224:=func366.trans (congrArg some zo)
 f225:=func365.trans (congrArg some zo)
 f260:=func378.trans (congrArg some zo)
 f266:=func370.trans (congrArg some zo)
 f267:=func367.trans (congrArg some zo)
 f268:=func372.trans (congrArg some zo)
 f314:=func371.trans (congrArg some zo)
 t0:=underlying0
 a0:=isAgg0
 z0:=sizeOf0
 v0:=zeroValue0
 t3:=underlying3
 a3:=isAgg3
 z3:=sizeOf3
 v3:=zeroValue3
 t4:=underlying4
 a4:=isAgg4
 z4:=sizeOf4
 v4:=zeroValue4
 t5:=underlying5
 a5:=isAgg5
 z5:=sizeOf5
 v5:=zeroValue5
 t9:=underlying9
 a9:=isAgg9
 z9:=sizeOf9
 v9:=zeroValue9
 t21:=underlying21
 a21:=isAgg21
 z21:=sizeOf21
 v21:=zeroValue21
 t31:=underlying102
 a31:=isAgg102
 z31:=sizeOf102
 v31:=zeroValue102
 t46:=underlying277
 a46:=isAgg277
 z46:=sizeOf277
 v46:=zeroValue277
 t51:=underlying342
 a51:=isAgg342
 z51:=sizeOf342
 v51:=zeroValue342
 t105:=underlying444
 a105:=isAgg444
 z105:=sizeOf444
 v105:=zeroValue444
 t119:=underlying446
 a119:=isAgg446
 z119:=sizeOf446
 t138:=underlying448
 a138:=isAgg448
 z138:=sizeOf448
 v138:=zeroValue448
 t139:=underlying449
 a139:=isAgg449
 z139:=sizeOf449
 v139:=zeroValue449
 t146:=underlying429
 a146:=isAgg429
 z146:=sizeOf429
 v146:=zeroValue429
 g1:=zo
 g3:=zo
 g4:=zo
 i0:=zo
 i3:=zo
 i4:=zo
 i5:=zo
 i9:=zo
 i21:=zo
 i31:=zo
 i46:=zo
 i51:=zo
 i105:=zo
 i138:=zo
 i139:=zo
 i146:=zo
 m1:=zo
 s1_3:=fun w h=>Go.Proofs.cell_of_shapedOpen_int (zero:= #[.int .i64 0]) (t:=3) h (of_decide_eq_true zo) zo rfl zo zo underlying3
 m3:=zo
 m4:=zo}
end Go.Proofs
end
section
namespace Go.Proofs.YtebpcnkdhgnghaaGreatDoor
open Go.RowKit
theorem oy (n:Int) (h0: -9223372036854775808<=n) (h1:n<=9223372036854775807) (w:World) (htab:Lib.TabIs Tryz.prog w "internal/strconv.uint64pow10" .u64 Lib.pow10Tab):
  Calls Tryz.prog 49 #[.int .i64 n] w fun e w'=>e= .returned (.string ⟨(Lib.itoa n).toArray⟩)/\Below w.heap.size w w':=by
 refine (Tryz.strconv_Itoa n h0 h1 w htab).mono ?_;rintro e w' ⟨rfl,k,os,rfl⟩;exact ⟨rfl,Lib.below_grow _ _ zg _ _⟩
end Go.Proofs.YtebpcnkdhgnghaaGreatDoor
end
section
namespace Go.Proofs.YtebpcnkdhgnghaaGreatDoor
open Go.Proofs.Tryz
open Go.RowKit
theorem Lq (m d:Nat):Int.tdiv (m:Int) (d:Int)=((m / d:Nat):Int):=by rw [Int.tdiv_eq_ediv_of_nonneg zj];rfl
theorem Fh (m d:Nat):Int.tmod (m:Int) (d:Int)=((m % d:Nat):Int):=by rw [Int.tmod_eq_emod_of_nonneg zj];rfl
theorem tK (m:Nat) (hm:m<9223372036854775808) (w:World):
  Calls prog 83 #[.int .i64 (m:Int)] w fun e w'=>e= .returned (.agg #[.int .i64 ((m % 16:Nat):Int),.int .i64 ((m / 16 % 3:Nat):Int),.int .i64 ((m / 16 / 3:Nat):Int)])/\Below w.heap.size w w':=by
 have q1:Int.tdiv (m:Int) 16=((m / 16:Nat):Int):=Lq m 16;have q2:Int.tmod (m:Int) 16=((m % 16:Nat):Int):=Fh m 16;obtain ⟨q,hq⟩:=zc (m / 16);obtain ⟨r,hr⟩:=zc (m % 16)
 rw [<-hq] at q1 |-
 rw [<-hr] at q2 |-
 have q3:Int.tdiv (q:Int) 3=((q / 3:Nat):Int):=Lq q 3;have q4:Int.tmod (q:Int) 3=((q % 3:Nat):Int):=Fh q 3;obtain ⟨a,ha⟩:=zc (q / 3);obtain ⟨b,hb⟩:=zc (q % 3)
 rw [<-ha] at q3 |-
 rw [<-hb] at q4 |-
 have l1:q<9223372036854775808:=zj;have l2:r<9223372036854775808:=zj;have l3:a<9223372036854775808:=zj;have l4:b<9223372036854775808:=zj;clear hq hr ha hb;go_enter func83,ntmps83;go_wp2;refine bodyPost_ret (v:=.agg #[.int .i64 (r:Int),.int .i64 (b:Int),.int .i64 (a:Int)]) (by simp [results,results83,go_sem]) rfl ⟨rfl,?_⟩;exact zh w _
theorem Kn (k:Nat) (hk:k<26) (w:World):(convert 21 9 (.int .i32 (97+(k:Int)))).run prog w= .ok (.string ⟨#[UInt8.ofNat (97+k)]⟩) w:=by
 have h:k=0\/k=1\/k=2\/k=3\/k=4\/k=5\/k=6\/k=7\/k=8\/k=9\/k=10\/k=11\/k=12\/k=13\/k=14\/k=15\/k=16\/k=17\/k=18\/k=19\/k=20\/k=21\/k=22\/k=23\/k=24\/k=25:=zj
 rcases h with rfl | rfl | rfl | rfl | rfl | rfl | rfl | rfl | rfl | rfl | rfl | rfl | rfl | rfl | rfl | rfl | rfl | rfl | rfl | rfl | rfl | rfl | rfl | rfl | rfl | rfl<;>(show _=_;kernel_rfl)
theorem Hd (k:Nat) (hk:k<26) (w:World):
  Calls prog 213 #[.int .i64 (k:Int)] w fun e w'=>e= .returned (.string ⟨#[UInt8.ofNat (97+k)]⟩)/\w'=w:=by
 have hr:=Kn k hk;obtain ⟨ch,hch⟩:=zc (UInt8.ofNat (97+k));rw [<-hch];simp only [<-hch] at hr;clear hch;go_enter func213,ntmps213;exact kb3
